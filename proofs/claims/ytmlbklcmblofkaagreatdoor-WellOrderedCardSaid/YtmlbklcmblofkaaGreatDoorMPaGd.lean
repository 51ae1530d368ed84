/-
  A pattern's tree is not too great to be read.
-/
import Derived.Test.YtmlbklcmblofkaaGreatDoorMPaD
import Derived.Test.YtmlbklcmblofkaaGreatDoorMAsA
set_option linter.unusedSimpArgs false
set_option linter.unusedVariables false
namespace Go.Proofs.YtmlbklcmblofkaaGreatDoor.Pa
section
open Sy (g)
open Rs (R Least)
open Sc (It Ct cntP nameP escz escP wholeL g_in)
open As (Nd)
variable {bs:List UInt8} {hi:Int} {x:Pt} {st st2:St} {k:Nat}
theorem whole_least (l:List R) (fo ng:Bool):Least (wholeL l fo ng):=by
 unfold wholeL
 cases ng with
 | true=>exact Rs.notL_least _
 | false=>
  rw [if_neg (by simp)]
  cases fo with
  | true=>exact Fo.close_least _
  | false=>exact Rs.mk_least _
def NdOk (n:Nat) (nd:Nd):Prop:=
 (0≤nd.from_∧nd.from_≤nd.to_∧nd.to_≤4096)∧nd.name.length≤32∧Least nd.set∧(nd.kind≠2→nd.set=[])∧(nd.kind≠4→nd.kind≠7→nd.name=[]) ∧
 (nd.kind≠8→nd.mn=0∧nd.mx=0)∧(nd.kind≠4→nd.kind≠8→nd.mode=0) ∧
 ((nd.kind=1∧nd.num=0∧n=0)∨(nd.kind=2∧nd.num=0∧n=0)∨(nd.kind=3∧1≤nd.num∧nd.num≤7∧n=0) ∨
  (nd.kind=4∧0≤nd.num∧nd.num≤99∧0≤nd.mode∧nd.mode≤1∧n=0∧(0<nd.num∨nd.name≠[]))∨(nd.kind=5∧nd.num=0∧2≤n∧n≤4096)∨(nd.kind=6∧nd.num=0∧2≤n∧n≤4097) ∨
  (nd.kind=7∧1≤nd.num∧nd.num≤99∧n=1)∨(nd.kind=8∧nd.num=0∧0≤nd.mn∧nd.mn≤1000∧-1≤nd.mx∧nd.mx≤1000∧(nd.mx=-1∨(1≤nd.mx∧nd.mn≤nd.mx))∧0≤nd.mode∧nd.mode≤1∧n=1) ∨
  (nd.kind=9∧nd.num=0∧n=1)∨(nd.kind=10∧1≤nd.num∧nd.num≤4∧n=1))
def inF (a b:Int):F→Prop
 | .nil=>True
 | .cons nd _ r=>a≤nd.from_∧nd.to_≤b∧inF a b r
def okF:F→Prop
 | .nil=>True
 | .cons nd ks r=>NdOk ks.len nd∧inF nd.from_ nd.to_ ks∧okF ks∧okF r
def ordF (lo:Int):F→Int→Prop
 | .nil,hi=>lo≤hi
 | .cons nd _ r,hi=>lo≤nd.from_∧nd.from_≤nd.to_∧ordF nd.to_ r hi
def nmsF:F→List (List UInt8)→Option (List (List UInt8))
 | .nil,acc=>some acc
 | .cons nd ks r,acc=>((if nd.kind=7 then (if nd.num=(acc.length:Int) then some (acc++[nd.name]) else none) else some acc).bind (nmsF ks)).bind (nmsF r)
theorem ordF.le {F:F}:∀ {lo:Int},ordF lo F hi→lo≤hi:=by
 induction F with
 | nil=>exact fun h=>h
 | cons nd ks r _ ih=>intro lo h;have:=ih h.2.2;have:=h.1;have:=h.2.1;omega
theorem ordF.mono {F:F} {hi':Int} (hh:hi≤hi'):∀ {lo lo':Int},lo'≤lo→ordF lo F hi→ordF lo' F hi':=by
 induction F with
 | nil=>intro lo lo' h1 h2;unfold ordF at h2 ⊢;omega
 | cons nd ks r _ ih=>intro lo lo' h1 h;exact ⟨by have:=h.1;omega,h.2.1,ih (Int.le_refl _) h.2.2⟩
theorem ordF.inF {F:F} {hi:Int}:∀ {lo a:Int},a≤lo→ordF lo F hi→inF a hi F:=by
 induction F with
 | nil=>intro lo a _ _;trivial
 | cons nd ks r _ ih=>intro lo a h1 h;have h2:=h.2.2.le;exact ⟨by have:=h.1;omega,h2,ih (by have:=h.1;have:=h.2.1;omega) h.2.2⟩
theorem ordF.snoc {m:Int} (h1:m≤x.nd.from_) (h2:x.nd.from_≤x.nd.to_) (h3:x.nd.to_≤hi):∀ {F:F} {lo:Int},ordF lo F m→ordF lo (F.app x) hi:=by
 intro F
 induction F with
 | nil=>intro lo h;exact ⟨Int.le_trans h h1,h2,h3⟩
 | cons nd ks r _ ih=>intro lo h;exact ⟨h.1,h.2.1,ih h.2.2⟩
theorem okF.app {x:Pt}:∀ {F:F},okF F→okF (.one x)→okF (F.app x):=by
 intro F
 induction F with
 | nil=>exact fun _ h=>h
 | cons nd ks r _ ih=>intro h hx;exact ⟨h.1,h.2.1,h.2.2.1,ih h.2.2.2 hx⟩
theorem nmsF.app {x:Pt}:∀ {F:F} (acc:List (List UInt8)),nmsF (F.app x) acc=(nmsF F acc).bind (nmsF (.one x)):=by
 intro F
 induction F with
 | nil=>intro acc;rfl
 | cons nd ks r _ ih=>
  intro acc
  show ((_:Option _).bind _).bind (nmsF (r.app x))=_
  rw [show nmsF (r.app x)=fun a=>(nmsF r a).bind (nmsF (.one x)) from funext fun a=>ih a]
  conv=>rhs;unfold nmsF
  simp only [Option.bind_assoc]
theorem F.len_app (x:Pt):∀ l:F,(l.app x).len=l.len+1
 | .nil=>rfl
 | .cons _ _ r=>by show (r.app x).len+1=r.len+1+1;rw [F.len_app x r]
structure Gd (st:St) (x:Pt) (st2:St):Prop where
 ok:okF (.one x)
 lo:(st.pos:Int)≤x.nd.from_
 hi:x.nd.to_≤(st2.pos:Int)
 nms:nmsF (.one x) st.names=some st2.names
theorem Gd.kind {st st2:St} {x:Pt} (h:Gd st x st2):x.nd.kind≠0:=by
 have:=h.ok.1
 unfold NdOk at this
 omega
theorem Gd.span (h:Gd st x st2):x.nd.from_≤x.nd.to_:=h.ok.1.1.2.1
def Few (st:St):Prop:=1≤st.names.length∧st.names.length≤100
def GdA (st:St) (r:Pt×Bool) (st2:St):Prop:=((r.1=⟨nd0,.nil⟩∧r.2=false∧st2.names=st.names)∨Gd st r.1 st2)∧Few st2
def GdI (bs:List UInt8) (inner:St→Res Pt):Prop:=∀ st x st2,st.pos≤bs.length→Few st→inner st=.ok (x,st2)→Gd st x st2∧Few st2
theorem nms_leaf {nd:Nd} (h:nd.kind≠7) (acc:List (List UInt8)):nmsF (.cons nd .nil .nil) acc=some acc:=by
 unfold nmsF
 rw [if_neg h]
 rfl
theorem least_one {n:Nat} (h:n≤1114367):Least [((n:Int),(n:Int))]:=by
 unfold Least Rs.LeastF Rs.LeastF
 exact ⟨by show (-2:Int)<(n:Int)-1;omega,Int.le_refl _,by show (n:Int)≤1114367;omega,trivial⟩
theorem cased_least {fl:Fl} {l:List R} (h:Least l):Least (casedP fl l):=by
 unfold casedP
 split
 ·exact Fo.close_least _
 ·exact h
theorem set_good (hb:bs.length≤4096) {l:List R} {st:St} {q:Nat} (hl:Least l) (h1:st.pos≤q) (h2:q≤bs.length):Gd st (setP l st q).1 (setP l st q).2 where
 ok:=⟨⟨by simp only [setP,leafP];omega,by simp [setP,leafP,nd0],hl,fun h=>absurd rfl h,fun _ _=>rfl,fun _=>⟨rfl,rfl⟩,fun _ _=>rfl,.inr (.inl ⟨rfl,rfl,rfl⟩)⟩,trivial,trivial,trivial⟩
 lo:=Int.le_refl _
 hi:=Int.le_refl _
 nms:=nms_leaf (by decide:(2:Int)≠7) _
theorem hold_good (hb:bs.length≤4096) {n:Int} {st:St} {q:Nat} (hn:1≤n∧n≤7) (h1:st.pos≤q) (h2:q≤bs.length):Gd st (leafP { nd0 with kind:=3,num:=n } st q).1 (leafP { nd0 with kind:=3,num:=n } st q).2 where
 ok:=⟨⟨by simp only [leafP];omega,by simp [leafP,nd0],trivial,fun _=>rfl,fun _ _=>rfl,fun _=>⟨rfl,rfl⟩,fun _ _=>rfl,.inr (.inr (.inl ⟨rfl,hn.1,hn.2,rfl⟩))⟩,trivial,trivial,trivial⟩
 lo:=Int.le_refl _
 hi:=Int.le_refl _
 nms:=nms_leaf (by decide:(3:Int)≠7) _
theorem back_good (hb:bs.length≤4096) {n:Nat} {s:List UInt8} {md:Int} {st:St} {q:Nat} (hm:md=0∨md=1) (hn:n≤99) (hs:s.length≤32) (hns:0<n∨s≠[]) (h1:st.pos≤q) (h2:q≤bs.length) :
  Gd st (leafP { nd0 with kind:=4,num:=(n:Int),name:=s,mode:=md } st q).1 (leafP { nd0 with kind:=4,num:=(n:Int),name:=s,mode:=md } st q).2 where
 ok:=⟨⟨by simp only [leafP];omega,hs,trivial,fun _=>rfl,fun h=>absurd rfl h,fun _=>⟨rfl,rfl⟩,fun h=>absurd rfl h,.inr (.inr (.inr (.inl ⟨rfl,by show (0:Int)≤(n:Int);omega,by show (n:Int)≤99;omega,by show (0:Int)≤md;omega,by show md≤1;omega,rfl,by
  rcases hns with h|h
  ·exact .inl (by show (0:Int)<(n:Int);omega)
  ·exact .inr h⟩)))⟩,trivial,trivial,trivial⟩
 lo:=Int.le_refl _
 hi:=Int.le_refl _
 nms:=nms_leaf (by decide:(4:Int)≠7) _
def InY:It→Prop
 | .hld n q=>1≤n∧n≤7
 | .ref n q=>1≤n∧n≤99
 | .key s q=>s≠[]∧s.length≤32
 | _=>True
theorem name_some {q:Nat} {s:List UInt8} (h:nameP bs k=some (s,q)):s≠[]∧s.length≤32:=by
 refine ⟨?_,(name_on h).2.2⟩
 unfold nameP at h
 split at h
 ·rename_i h1
  injection h with h
  injection h with h2 h3
  have hg:g bs k≠0:=by
   have:=h1.1
   rintro e
   rw [e] at this
   cases this
  have hk:=g_in hg
  have hw:Sc.isW (g bs (k+0))=true:=by
   rw [Nat.add_zero]
   have h4:=h1.1
   rw [Sc.isW_iff]
   rw [Bool.or_eq_true,Sc.isA_iff,decide_eq_true_eq] at h4
   omega
  have hl:=(Sc.wl_at (bs:=bs) (k:=k) (j:=0) (Nat.zero_le _)).2 hw
  subst h2
  intro e
  have:=congrArg List.length e
  rw [List.length_take,List.length_drop] at this
  simp only [List.length_nil] at this
  omega
 ·cases h
theorem hld_num {c n:Nat} (h:Sc.hldO c=some n):1≤n∧n≤7:=by
 unfold Sc.hldO at h
 repeat' split at h
 all_goals first|(injection h with h;omega)|cases h
theorem esc_y (hk:k≤bs.length):InY (escP bs false k):=by
 unfold escP
 rw [if_neg (by simp)]
 split
 ·unfold Sc.keyP
  split
  ·cases hn:nameP bs (k+1+1) with
   | none=>trivial
   | some t=>obtain ⟨s,tq⟩:=t;exact name_some hn
  ·trivial
 ·split
  ·rename_i h1 h2
   unfold Sc.refP
   split
   ·rename_i h3
    rw [Sc.isD_iff] at h3
    exact ⟨by omega,by omega⟩
   ·exact ⟨by omega,by omega⟩
  ·cases hh:Sc.hldO (g bs k) with
   | some n=>exact hld_num hh
   | none=>
    have:=Sc.com_in hk
    revert this
    simp only []
    cases Sc.comP bs k<;>simp only [Sc.InC,InY]<;>intro h<;>first|trivial|exact h.elim
theorem few_same (h:Few st) (e:st2.names=st.names):Few st2:=by unfold Few;rw [e];exact h
theorem escP_good (hb:bs.length≤4096) {st st2:St} {r:Pt×Bool} (hf:Few st) (h92:g bs st.pos=92) (h:escPt bs st=.ok (r,st2)):GdA st r st2:=by
 have hx:=escz_in h92
 have hy:InY (escz bs false (st.pos:Int)):=by
  rw [Sc.escz_yes false h92]
  exact esc_y (by have:=g_in (bs:=bs) (k:=st.pos) (by omega);omega)
 unfold escPt at h
 revert hx hy h
 cases escz bs false (st.pos:Int) with
 | err e=>intro h _ _;cases h
 | lit n q=>
  intro h hx _
  have hx:st.pos+1<q∧q≤bs.length∧n≤1114367:=hx
  injection h with h;injection h with h1 h2;subst h1;subst h2
  exact ⟨.inr (set_good hb (cased_least (least_one hx.2.2)) (by omega) hx.2.1),few_same hf rfl⟩
 | cls c q=>
  intro h hx _
  have hx:st.pos+1<q∧q≤bs.length:=hx
  injection h with h;injection h with h1 h2;subst h1;subst h2
  exact ⟨.inr (set_good hb (cased_least (Cl.listOf_least c)) (by omega) hx.2),few_same hf rfl⟩
 | nam s t q=>
  intro h hx _
  have hx:st.pos+1<q∧q≤bs.length:=hx
  injection h with h;injection h with h1 h2;subst h1;subst h2
  refine ⟨.inr (set_good hb (cased_least ?_) (by omega) hx.2),few_same hf rfl⟩
  show Least (if t then Rs.notL (Cl.nameL s) else Cl.nameL s)
  split
  ·exact Rs.notL_least _
  ·exact Cl.nameL_least _
 | hld n q=>
  intro h hx hy
  have hx:st.pos+1<q∧q≤bs.length:=hx
  injection h with h;injection h with h1 h2;subst h1;subst h2
  exact ⟨.inr (hold_good hb (by have:1≤n∧n≤7:=hy;omega) (by omega) hx.2),few_same hf rfl⟩
 | ref n q=>
  intro h hx hy
  have hx:st.pos+1<q∧q≤bs.length:=hx
  have hy:1≤n∧n≤99:=hy
  injection h with h;injection h with h1 h2;subst h1;subst h2
  exact ⟨.inr (back_good hb (by split<;>simp) hy.2 (by simp [It.name]) (.inl hy.1) (by show st.pos≤q;omega) hx.2),few_same hf rfl⟩
 | key s q=>
  intro h hx hy
  have hx:st.pos+1<q∧q≤bs.length:=hx
  have hy:s≠[]∧s.length≤32:=hy
  injection h with h;injection h with h1 h2;subst h1;subst h2
  exact ⟨.inr (back_good hb (by split<;>simp) (by simp [It.num]) hy.2 (.inr hy.1) (by show st.pos≤q;omega) hx.2),few_same hf rfl⟩
theorem cnt_ok (h:(cntP bs k).is=true):(cntP bs k).lo≤1000∧-1≤(cntP bs k).hi∧(cntP bs k).hi≤1000∧((cntP bs k).hi=-1∨(1≤(cntP bs k).hi∧((cntP bs k).lo:Int)≤(cntP bs k).hi)):=by
 have h5:=(cnt_on h).2.2.2.2.1
 unfold cntP at h h5 ⊢
 cases hc:Sc.countsP bs k with
 | none=>rw [hc] at h;simp at h
 | some t=>
  obtain ⟨lo,hi,tq⟩:=t
  rw [hc] at h h5
  simp only [] at h h5 ⊢
  cases hk:Sc.okC lo hi with
  | false=>rw [hk] at h;simp at h
  | true=>
   rw [hk] at h5
   simp only [if_true] at h5 ⊢
   unfold Sc.okC at hk
   simp only [Bool.and_eq_true,Bool.or_eq_true,decide_eq_true_eq] at hk
   omega
theorem rep_good (hb:bs.length≤4096) {st sx st2:St} {x:Pt} {c:Ct} (hx:Gd st x sx) (h1:sx.pos≤c.to) (h2:c.to≤st2.pos) (h3:c.to≤bs.length) (hn:st2.names=sx.names)
  (hc:c.lo≤1000∧-1≤c.hi∧c.hi≤1000∧(c.hi=-1∨(1≤c.hi∧(c.lo:Int)≤c.hi))):Gd st (repP x st.pos c) st2:=by
 have hsp:=hx.span
 have hlo:=hx.lo
 have hhi:=hx.hi
 have hrep:okF (.cons (repN st.pos c) (.one x) .nil):=by
  refine ⟨⟨⟨by show (0:Int)≤(st.pos:Int);omega,by show (st.pos:Int)≤(c.to:Int);omega,by show (c.to:Int)≤4096;omega⟩,by simp [repN,nd0],trivial,fun _=>rfl,fun _ _=>rfl,fun h=>absurd rfl h,fun _ h=>absurd rfl h,?_⟩,⟨hlo,by show x.nd.to_≤(c.to:Int);omega,trivial⟩,hx.ok,trivial⟩
  refine .inr (.inr (.inr (.inr (.inr (.inr (.inr (.inl ⟨rfl,rfl,by show (0:Int)≤(c.lo:Int);omega,by show (c.lo:Int)≤1000;omega,hc.2.1,hc.2.2.1,hc.2.2.2,?_,?_,rfl⟩)))))))
  ·show (0:Int)≤(if c.mode=1 then 1 else 0);split<;>omega
  ·show (if c.mode=1 then (1:Int) else 0)≤1;split<;>omega
 have hnm:nmsF (.cons (repN st.pos c) (.one x) .nil) st.names=some st2.names:=by
  unfold nmsF
  rw [if_neg (show ¬ (repN st.pos c).kind=7 from (by decide:¬ (8:Int)=7)),Option.bind_some,hx.nms,Option.bind_some,hn]
  rfl
 unfold repP
 split
 ·refine ⟨⟨⟨⟨by show (0:Int)≤(st.pos:Int);omega,by show (st.pos:Int)≤(c.to:Int);omega,by show (c.to:Int)≤4096;omega⟩,by simp [nd0],trivial,fun _=>rfl,fun _ _=>rfl,fun _=>⟨rfl,rfl⟩,fun _ _=>rfl,?_⟩,⟨Int.le_refl _,Int.le_refl _,trivial⟩,hrep,trivial⟩,Int.le_refl _,by show (c.to:Int)≤(st2.pos:Int);omega,?_⟩
  ·exact .inr (.inr (.inr (.inr (.inr (.inr (.inr (.inr (.inl ⟨rfl,rfl,rfl⟩))))))))
  ·show nmsF (.cons _ _ .nil) _=_
   rw [nmsF,if_neg (show ¬ ((9:Int)=7) by decide),Option.bind_some,hnm]
   rfl
 ·exact ⟨hrep,Int.le_refl _,by show (c.to:Int)≤(st2.pos:Int);omega,hnm⟩
theorem Gd.on {st3:St} (h:Gd st x st2) (h1:st2.pos≤st3.pos) (h2:st3.names=st2.names):Gd st x st3:=⟨h.ok,h.lo,by have:=h.hi;omega,by rw [h2];exact h.nms⟩
theorem Gd.from {s0:St} (h:Gd st x st2) (h1:s0.pos≤st.pos) (h2:s0.names=st.names):Gd s0 x st2:=⟨h.ok,by have:=h.lo;omega,h.hi,by rw [h2];exact h.nms⟩
theorem quant_good (hb:bs.length≤4096) {x y:Pt} {s0 st st2:St} (hp:st.pos≤bs.length) (hf:Few st) (hx:Gd s0 x st) (h:quantP bs x s0.pos st=.ok (y,st2)):Gd s0 y st2∧Few st2:=by
 have h1:=skip_on bs st hp
 unfold quantP at h
 dsimp only at h
 split at h
 ·cases h
 ·split at h
  ·injection h with h;injection h with h2 h3;subst h3;subst h2
   exact ⟨hx.on h1.1 h1.2.2.1,few_same hf h1.2.2.1⟩
  ·rename_i hi
   have hc:=cnt_on (bs:=bs) (k:=(skipP bs st).pos) (by simpa using hi)
   have hk:=cnt_ok (bs:=bs) (k:=(skipP bs st).pos) (by simpa using hi)
   split at h
   ·cases h
   ·injection h with h;injection h with h2 h3;subst h3;subst h2
    have h4:=skip_on bs { skipP bs st with pos:=(cntP bs (skipP bs st).pos).to } hc.2.1
    exact ⟨rep_good hb hx (by omega) h4.1 hc.2.1 (h4.2.2.1.trans h1.2.2.1) hk,few_same hf (h4.2.2.1.trans h1.2.2.1)⟩
theorem within_good (hb:bs.length≤4096) {inner:St→Res Pt} (hi:Fwd bs inner) (hg:GdI bs inner) {n:Nd} {fr:Nat} {fl:Fl} {s0 st st2:St} {x:Pt} {m:Bool} (h1:st.pos<fr) (h2:fr≤bs.length)
  (hs:s0.pos=st.pos) (hf:Few st) (hn:(n.kind=0∧s0.names=st.names) ∨
   (n.name.length≤32∧n.set=[]∧n.mn=0∧n.mx=0∧n.mode=0∧((n.kind=7∧1≤n.num∧n.num≤99∧n.num=(s0.names.length:Int)∧st.names=s0.names++[n.name]) ∨
    (n.kind=9∧n.num=0∧n.name=[]∧s0.names=st.names)∨(n.kind=10∧1≤n.num∧n.num≤4∧n.name=[]∧s0.names=st.names))))
  (h:withinP bs inner n fr fl st=.ok ((x,m),st2)):Gd s0 x st2∧Few st2:=by
 unfold withinP at h
 split at h
 ·cases h
 ·rename_i y s3 hin
  have ho:=hi _ _ _ (by exact h2) hin
  have hg2:=hg _ _ _ (by exact h2) (show Few ⟨fr,fl,st.names⟩ from few_same hf rfl) hin
  simp only [] at ho
  split at h
  ·cases h
  ·rename_i hlt
   injection h with h;injection h with h3 h4;injection h3 with h3 h5;subst h4;subst h3
   obtain ⟨hgd,hf3⟩:=hg2
   have hsp:=hgd.span
   have hlo:(fr:Int)≤y.nd.from_:=hgd.lo
   have hhi:=hgd.hi
   have hnm:nmsF (.one y) st.names=some s3.names:=hgd.nms
   refine ⟨?_,few_same hf3 rfl⟩
   rcases hn with ⟨hk,hnn⟩|⟨n1,n2,n3,n4,n5,hn⟩
   ·rw [if_pos hk]
    exact ⟨hgd.ok,by omega,by show y.nd.to_≤((s3.pos+1:Nat):Int);omega,by rw [hnn];exact hnm⟩
   ·have hk:¬ n.kind=0:=by omega
    rw [if_neg hk]
    refine ⟨⟨⟨⟨by show (0:Int)≤(st.pos:Int);omega,by show (st.pos:Int)≤(s3.pos:Int)+1;omega,by show (s3.pos:Int)+1≤4096;omega⟩,n1,by show Least n.set;rw [n2];exact trivial,fun _=>n2,?_,fun _=>⟨n3,n4⟩,fun _ _=>n5,?_⟩,⟨by show (st.pos:Int)≤_;omega,by show _≤(s3.pos:Int)+1;omega,trivial⟩,hgd.ok,trivial⟩,
     by show (s0.pos:Int)≤(st.pos:Int);omega,by show (s3.pos:Int)+1≤((s3.pos+1:Nat):Int);omega,?_⟩
    ·intro _ h7
     rcases hn with hn|hn|hn
     ·exact absurd hn.1 h7
     ·exact hn.2.2.1
     ·exact hn.2.2.2.1
    ·show _∨_
     rcases hn with hn|hn|hn
     ·exact .inr (.inr (.inr (.inr (.inr (.inr (.inl ⟨hn.1,hn.2.1,hn.2.2.1,rfl⟩))))))
     ·exact .inr (.inr (.inr (.inr (.inr (.inr (.inr (.inr (.inl ⟨hn.1,hn.2.1,rfl⟩))))))))
     ·exact .inr (.inr (.inr (.inr (.inr (.inr (.inr (.inr (.inr ⟨hn.1,hn.2.1,hn.2.2.1,rfl⟩))))))))
    ·show nmsF (.cons _ (.one y) .nil) s0.names=_
     rw [nmsF]
     rcases hn with hn|hn|hn
     ·rw [if_pos (show (n.kind=7) from hn.1),if_pos (show n.num=(s0.names.length:Int) from hn.2.2.2.1),Option.bind_some,show s0.names++[n.name]=st.names from hn.2.2.2.2.symm,hnm]
      rfl
     ·rw [if_neg (show ¬ n.kind=7 by omega),Option.bind_some,hn.2.2.2,hnm]
      rfl
     ·rw [if_neg (show ¬ n.kind=7 by omega),Option.bind_some,hn.2.2.2.2,hnm]
      rfl
theorem group_good (hb:bs.length≤4096) {inner:St→Res Pt} (hi:Fwd bs inner) (hg:GdI bs inner) {name:List UInt8} {fr:Nat} {st st2:St} {x:Pt} {m:Bool} (hnm:name.length≤32) (hf:Few st) (h1:st.pos<fr) (h2:fr≤bs.length)
  (h:groupP bs inner name fr st=.ok ((x,m),st2)):GdA st (x,m) st2:=by
 unfold groupP at h
 split at h
 ·cases h
 ·rename_i hl
  have hfew:Few { st with names:=st.names++[name] }:=by
   show 1≤(st.names++[name]).length∧(st.names++[name]).length≤100
   rw [List.length_append,List.length_singleton];omega
  have hh:=within_good hb hi hg (s0:=st) (st:={ st with names:=st.names++[name] }) h1 h2 rfl hfew
   (.inr ⟨hnm,rfl,rfl,rfl,rfl,.inl ⟨rfl,by show (1:Int)≤(st.names.length:Int);have:=hf.1;omega,by show (st.names.length:Int)≤99;omega,rfl,rfl⟩⟩) h
  exact ⟨.inr hh.1,hh.2⟩
theorem flagged_good (hb:bs.length≤4096) {inner:St→Res Pt} (hi:Fwd bs inner) (hg:GdI bs inner) {k:Nat} {st st2:St} {x:Pt} {m:Bool} (h1:st.pos<k) (hk:k≤bs.length) (hf0:Few st) (h:flaggedP bs inner k st=.ok ((x,m),st2)):GdA st (x,m) st2:=by
 have hf:=flg_on (bs:=bs) st.fl hk
 unfold flaggedP at h
 split at h
 ·cases h
 ·rename_i h0
  have h0':(flgP bs st.fl k).2.2<bs.length:=Nat.lt_of_not_le fun e=>h0 (.inr e)
  split at h
  ·injection h with h;injection h with h2 h3;injection h2 with h2 h4;subst h3;subst h2;subst h4
   exact ⟨.inl ⟨rfl,rfl,rfl⟩,few_same hf0 rfl⟩
  ·split at h
   ·have hh:=within_good hb hi hg (s0:=st) (by omega) (by omega) rfl hf0 (.inl ⟨rfl,rfl⟩) h
    exact ⟨.inr hh.1,hh.2⟩
   ·cases h
theorem paren_good (hb:bs.length≤4096) {inner:Option (St→Res Pt)} (hi:∀ i,inner=some i→Fwd bs i) (hg:∀ i,inner=some i→GdI bs i) {st st2:St} {x:Pt} {m:Bool} (hp:st.pos<bs.length) (hf:Few st) (h:parenP bs inner st=.ok ((x,m),st2)):GdA st (x,m) st2:=by
 unfold parenP at h
 cases inner with
 | none=>cases h
 | some i=>
  have hi:=hi i rfl
  have hg:=hg i rfl
  simp only [] at h
  have hl:∀ q:List Nat,(∀ c∈q,0<c)→0<q.length→stA bs st.pos q=true→st.pos+q.length≤bs.length:=fun q h1 h2 h3=>stA_len q st.pos h1 h2 h3
  split at h
  ·exact group_good hb hi hg (by simp) hf (by omega) (by omega) h
  ·rename_i h0
   have h2:=hl [40,63] (by decide) (by decide) (by simpa using h0)
   simp only [List.length_cons,List.length_nil] at h2
   have hw:∀ {n:Nd} {fr:Nat},st.pos<fr→fr≤bs.length→((n.kind=0)∨(n.name.length≤32∧n.set=[]∧n.mn=0∧n.mx=0∧n.mode=0∧((n.kind=9∧n.num=0∧n.name=[])∨(n.kind=10∧1≤n.num∧n.num≤4∧n.name=[]))))→withinP bs i n fr st.fl st=.ok ((x,m),st2)→GdA st (x,m) st2:=by
    intro n fr ha hb2 hn hw
    have hh:=within_good hb hi hg (s0:=st) ha hb2 rfl hf (by
     rcases hn with hn|⟨n1,n2,n3,n4,n5,hn⟩
     ·exact .inl ⟨hn,rfl⟩
     ·refine .inr ⟨n1,n2,n3,n4,n5,.inr ?_⟩
      rcases hn with hn|hn
      ·exact .inl ⟨hn.1,hn.2.1,hn.2.2,rfl⟩
      ·exact .inr ⟨hn.1,hn.2.1,hn.2.2.1,hn.2.2.2,rfl⟩) hw
    exact ⟨.inr hh.1,hh.2⟩
   split at h
   ·unfold remarkP at h
    split at h
    ·cases h
    ·rename_i j hj
     injection h with h;injection h with h2 h3;injection h2 with h2 h4;subst h3;subst h2;subst h4
     exact ⟨.inl ⟨rfl,rfl,rfl⟩,few_same hf rfl⟩
   ·split at h
    ·rename_i h3
     have h3:=hl [40,63,58] (by decide) (by decide) h3
     exact hw (by omega) (by simpa using h3) (.inl rfl) h
    ·split at h
     ·rename_i h3
      have h3:=hl [40,63,62] (by decide) (by decide) h3
      exact hw (by omega) (by simpa using h3) (.inr ⟨by simp [nd0],rfl,rfl,rfl,rfl,.inl ⟨rfl,rfl,rfl⟩⟩) h
     ·split at h
      ·rename_i h3
       have h3:=hl [40,63,61] (by decide) (by decide) h3
       exact hw (by omega) (by simpa using h3) (.inr ⟨by simp [nd0],rfl,rfl,rfl,rfl,.inr ⟨rfl,by decide,by decide,rfl⟩⟩) h
      ·split at h
       ·rename_i h3
        have h3:=hl [40,63,33] (by decide) (by decide) h3
        exact hw (by omega) (by simpa using h3) (.inr ⟨by simp [nd0],rfl,rfl,rfl,rfl,.inr ⟨rfl,by decide,by decide,rfl⟩⟩) h
       ·split at h
        ·rename_i h3
         have h3:=hl [40,63,60,61] (by decide) (by decide) h3
         exact hw (by omega) (by simpa using h3) (.inr ⟨by simp [nd0],rfl,rfl,rfl,rfl,.inr ⟨rfl,by decide,by decide,rfl⟩⟩) h
        ·split at h
         ·rename_i h3
          have h3:=hl [40,63,60,33] (by decide) (by decide) h3
          exact hw (by omega) (by simpa using h3) (.inr ⟨by simp [nd0],rfl,rfl,rfl,rfl,.inr ⟨rfl,by decide,by decide,rfl⟩⟩) h
         ·split at h
          ·unfold namedP at h
           split at h
           ·cases h
           ·rename_i s fr hn
            have hnn:=name_on hn
            split at h
            ·cases h
            ·exact group_good hb hi hg hnn.2.2 hf (by omega) (by omega) h
          ·exact flagged_good hb hi hg (by omega) (by omega) hf h
theorem any_least (b:Bool):Least (anyP b):=by cases b<;>decide
theorem atom_good (hb:bs.length≤4096) {inner:Option (St→Res Pt)} (hi:∀ i,inner=some i→Fwd bs i) (hg:∀ i,inner=some i→GdI bs i) {st st2:St} {x:Pt} {m:Bool} (hp:st.pos<bs.length) (hf:Few st) (h:atomP bs inner st=.ok ((x,m),st2)):GdA st (x,m) st2:=by
 unfold atomP at h
 split at h
 ·exact paren_good hb hi hg hp hf h
 ·split at h
  ·unfold classP at h
   split at h
   ·cases h
   ·rename_i l q hc
    have:=cls_on hc
    injection h with h;injection h with h2 h3;injection h2 with h2 h4;subst h3;subst h2
    exact ⟨.inr (set_good hb (whole_least _ _ _) (by omega) this.2),few_same hf rfl⟩
  ·split at h
   ·rename_i h92
    exact escP_good hb hf h92 h
   ·split at h
    ·injection h with h;injection h with h2 h3;injection h2 with h2 h4;subst h3;subst h2
     exact ⟨.inr (hold_good (st:=st) (n:=if st.fl.m then ((4:Nat):Int) else ((1:Nat):Int)) (q:=st.pos+1) hb (by split<;>omega) (by omega) (by omega)),few_same hf rfl⟩
    ·split at h
     ·injection h with h;injection h with h2 h3;injection h2 with h2 h4;subst h3;subst h2
      exact ⟨.inr (hold_good (st:=st) (n:=if st.fl.m then ((5:Nat):Int) else ((2:Nat):Int)) (q:=st.pos+1) hb (by split<;>omega) (by omega) (by omega)),few_same hf rfl⟩
     ·split at h
      ·injection h with h;injection h with h2 h3;injection h2 with h2 h4;subst h3;subst h2
       exact ⟨.inr (set_good hb (any_least _) (by omega) (by omega)),few_same hf rfl⟩
      ·have:=Sc.sym_snd (bs:=bs) (k:=st.pos) hp
       injection h with h;injection h with h2 h3;injection h2 with h2 h4;subst h3;subst h2
       exact ⟨.inr (set_good hb (cased_least (least_one (Sc.sym_top bs st.pos))) (by omega) (by omega)),few_same hf rfl⟩
theorem piece_good (hb:bs.length≤4096) {inner:Option (St→Res Pt)} (hi:∀ i,inner=some i→Fwd bs i) (hg:∀ i,inner=some i→GdI bs i) {st st2:St} {x:Pt} (hp:st.pos<bs.length) (hf:Few st) (h:pieceP bs inner st=.ok (x,st2)) :
  ((x=⟨nd0,.nil⟩∧st2.names=st.names)∨Gd st x st2)∧Few st2:=by
 unfold pieceP at h
 split at h
 ·cases h
 ·split at h
  ·cases h
  ·split at h
   ·cases h
   ·rename_i y may s3 ha
    have h1:=atom_on hi hp ha
    have h2:=atom_good hb hi hg hp hf ha
    split at h
    ·rename_i hm
     rcases h2.1 with h3|h3
     ·rw [hm] at h3;exact absurd h3.2.1 (by simp)
     ·have:=quant_good hb h1.2 h2.2 h3 h
      exact ⟨.inr this.1,this.2⟩
    ·injection h with h;injection h with h3 h4;subst h3;subst h4
     rcases h2.1 with h3|h3
     ·exact ⟨.inl ⟨h3.1,h3.2.2⟩,h2.2⟩
     ·exact ⟨.inr h3,h2.2⟩
theorem last_in:∀ {l:F} {lo z:Int},ordF lo l hi→z≤lo→z≤l.lastTo z∧l.lastTo z≤max z hi∧ordF lo l (max lo (l.lastTo z)):=by
 intro l
 induction l with
 | nil=>intro lo z h hz;exact ⟨Int.le_refl _,by show z≤max z hi;omega,by show lo≤max lo z;omega⟩
 | cons nd ks r _ ih=>
  intro lo z h hz
  obtain ⟨g1,g2,g3⟩:=ih (z:=nd.to_) h.2.2 (Int.le_refl _)
  have h1:=h.1
  have h2:=h.2.1
  have h3:=h.2.2.le
  refine ⟨by show z≤r.lastTo nd.to_;omega,by show r.lastTo nd.to_≤max z hi;omega,h1,h2,g3.mono ?_ (Int.le_refl _)⟩
  show max nd.to_ (r.lastTo nd.to_)≤max lo (r.lastTo nd.to_)
  omega
theorem row_good (hb:bs.length≤4096) {st st2:St} {l:F} (h1:okF l) (h2:ordF (st.pos:Int) l (st2.pos:Int)) (h3:nmsF l st.names=some st2.names) (h4:l.len+st.pos≤st2.pos) (h5:st2.pos≤bs.length):Gd st (rowP l st.pos) st2:=by
 match l,h1,h2,h3,h4 with
 | .nil,h1,h2,h3,h4=>
  have h2:(st.pos:Int)≤(st2.pos:Int):=h2
  refine ⟨⟨⟨⟨by show (0:Int)≤(st.pos:Int);omega,Int.le_refl _,by show (st.pos:Int)≤4096;omega⟩,by simp [rowP,nd0],trivial,fun _=>rfl,fun _ _=>rfl,fun _=>⟨rfl,rfl⟩,fun _ _=>rfl,.inl ⟨rfl,rfl,rfl⟩⟩,trivial,trivial,trivial⟩,Int.le_refl _,h2,?_⟩
  exact (nms_leaf (show ¬ ((1:Int)=7) by decide) _).trans h3
 | .cons nd ks .nil,h1,h2,h3,h4=>exact ⟨⟨h1.1,h1.2.1,h1.2.2.1,trivial⟩,h2.1,h2.2.2,h3⟩
 | .cons nd ks (.cons a b c),h1,h2,h3,h4=>
  have e1:=h2.1
  have e2:=h2.2.1
  obtain ⟨g1,g2,g3⟩:=last_in (z:=nd.to_) h2.2.2 (Int.le_refl _)
  have e3:=h2.2.2.le
  have hlen:(F.cons nd ks (.cons a b c)).len=c.len+2:=rfl
  rw [hlen] at h4
  refine ⟨⟨⟨⟨by show (0:Int)≤nd.from_;omega,by show nd.from_≤(F.cons a b c).lastTo nd.to_;omega,by show (F.cons a b c).lastTo nd.to_≤4096;omega⟩,by simp [rowP,nd0],trivial,fun _=>rfl,fun _ _=>rfl,fun _=>⟨rfl,rfl⟩,fun _ _=>rfl,?_⟩,?_,h1,trivial⟩,e1,by show (F.cons a b c).lastTo nd.to_≤_;omega,?_⟩
  ·refine .inr (.inr (.inr (.inr (.inl ⟨rfl,rfl,?_,?_⟩))))
   ·show 2≤(F.cons nd ks (.cons a b c)).len;rw [hlen];omega
   ·show (F.cons nd ks (.cons a b c)).len≤4096;rw [hlen];omega
  ·show inF nd.from_ ((F.cons a b c).lastTo nd.to_) (.cons nd ks (.cons a b c))
   refine ⟨Int.le_refl _,g1,?_⟩
   have:max nd.to_ ((F.cons a b c).lastTo nd.to_)=(F.cons a b c).lastTo nd.to_:=by omega
   rw [this] at g3
   exact g3.inF (by omega)
  ·show nmsF (.cons _ (.cons nd ks (.cons a b c)) .nil) _=_
   rw [nmsF]
   show (Option.bind (if (5:Int)=7 then _ else _) _).bind _=_
   rw [if_neg (by decide),Option.bind_some,h3]
   rfl
theorem alt_good {bs:List UInt8} (hb:bs.length≤4096) {inner:Option (St→Res Pt)} (hi:∀ i,inner=some i→Fwd bs i) (hg:∀ i,inner=some i→GdI bs i) {s0:St}:∀ (n:Nat) {st st2:St} {l:F} {x:Pt},bs.length-st.pos≤n→st.pos≤bs.length→Few st →
  okF l→ordF (s0.pos:Int) l (st.pos:Int)→nmsF l s0.names=some st.names→l.len+s0.pos≤st.pos→altF bs inner s0.pos st l=.ok (x,st2)→Gd s0 x st2∧Few st2
 | n,st,st2,l,x,hn,hp,hf,g1,g2,g3,g4,h=>by
  have h1:=skip_on bs st hp
  rw [altF] at h
  split at h
  ·injection h with h;injection h with h2 h3;subst h3;subst h2
   exact ⟨row_good hb g1 (g2.mono (by omega) (Int.le_refl _)) (by rw [h1.2.2.1];exact g3) (by omega) h1.2.1,few_same hf h1.2.2.1⟩
  ·rename_i he
   have hl:=end_no (bs:=bs) (k:=(skipP bs st).pos) (by simpa using he)
   split at h
   ·cases h
   ·rename_i y s3 hpc
    have h3:=piece_on hi hl hpc
    have h4:=piece_good hb hi hg hl (few_same hf h1.2.2.1) hpc
    split at h
    ·rename_i hgt
     cases n with
     | zero=>omega
     | succ n=>
      rcases h4.1 with ⟨rfl,hnm⟩|hgd
      ·rw [if_pos (by decide)] at h
       exact alt_good hb hi hg n (by omega) h3.2 h4.2 g1 (g2.mono (by omega) (Int.le_refl _)) (by rw [hnm,h1.2.2.1];exact g3) (by omega) h
      ·rw [if_neg hgd.kind] at h
       refine alt_good hb hi hg n (by omega) h3.2 h4.2 (g1.app hgd.ok) ?_ ?_ ?_ h
       ·exact ordF.snoc (m:=(st.pos:Int)) (by have:=hgd.lo;omega) hgd.span hgd.hi g2
       ·rw [nmsF.app,g3,Option.bind_some,← h1.2.2.1];exact hgd.nms
       ·rw [F.len_app];omega
    ·cases h
theorem altP_good (hb:bs.length≤4096) {inner:Option (St→Res Pt)} (hi:∀ i,inner=some i→Fwd bs i) (hg:∀ i,inner=some i→GdI bs i) {st st2:St} {x:Pt} (hp:st.pos≤bs.length) (hf:Few st) (h:altP bs inner st=.ok (x,st2)):Gd st x st2∧Few st2:=
 alt_good hb hi hg _ (l:=.nil) (Nat.le_refl _) hp hf trivial (Int.le_refl _) rfl (by show 0+st.pos≤st.pos;omega) h
theorem alts_good {bs:List UInt8} (hb:bs.length≤4096) {inner:Option (St→Res Pt)} (hi:∀ i,inner=some i→Fwd bs i) (hg:∀ i,inner=some i→GdI bs i) {s0:St}:∀ (n:Nat) {st st2:St} {l m:F},bs.length-st.pos≤n→st.pos≤bs.length→Few st →
  okF l→ordF (s0.pos:Int) l (st.pos:Int)→nmsF l s0.names=some st.names→l.len+s0.pos≤st.pos+1→1≤l.len→altsF bs inner st l=.ok (m,st2) →
  okF m∧ordF (s0.pos:Int) m (st2.pos:Int)∧nmsF m s0.names=some st2.names∧m.len+s0.pos≤st2.pos+1∧l.len≤m.len∧(m.len=l.len→m=l∧st2=st)∧Few st2
 | n,st,st2,l,m,hn,hp,hf,g1,g2,g3,g4,g5,h=>by
  rw [altsF] at h
  split at h
  ·rename_i hs
   have hl:=stA_len [124] st.pos (by decide) (by decide) hs
   simp only [List.length_cons,List.length_nil] at hl
   split at h
   ·cases h
   ·rename_i y s3 ha
    have h3:=alt_on hi _ (Nat.le_refl _) (by simpa using hl) ha
    have h4:=altP_good hb hi hg (by simpa using hl) (show Few { st with pos:=st.pos+1 } from few_same hf rfl) ha
    simp only [] at h3
    split at h
    ·cases n with
     | zero=>omega
     | succ n=>
      obtain ⟨hgd,hf3⟩:=h4
      have hlo:((st.pos+1:Nat):Int)≤y.nd.from_:=hgd.lo
      have hnm:nmsF (.one y) st.names=some s3.names:=hgd.nms
      have:=alts_good hb hi hg n (s0:=s0) (l:=l.app y) (by omega) h3.2 hf3 (g1.app hgd.ok) (ordF.snoc (m:=(st.pos:Int)) (by omega) hgd.span hgd.hi g2) (by rw [nmsF.app,g3,Option.bind_some];exact hnm) (by rw [F.len_app];omega) (by rw [F.len_app];omega) h
      rw [F.len_app] at this
      exact ⟨this.1,this.2.1,this.2.2.1,this.2.2.2.1,by omega,fun e=>by omega,this.2.2.2.2.2.2⟩
    ·cases h
  ·injection h with h;injection h with h2 h3;subst h3;subst h2
   exact ⟨g1,g2,g3,g4,Nat.le_refl _,fun _=>⟨rfl,rfl⟩,hf⟩
theorem altsP_good (hb:bs.length≤4096) {inner:Option (St→Res Pt)} (hi:∀ i,inner=some i→Fwd bs i) (hg:∀ i,inner=some i→GdI bs i):GdI bs (altsP bs inner):=fun st x st2 hp hf h=>by
 unfold altsP at h
 split at h
 ·cases h
 ·rename_i y s3 ha
  have h1:=alt_on hi _ (Nat.le_refl _) hp ha
  have h2:=altP_good hb hi hg hp hf ha
  split at h
  ·cases h
  ·rename_i l s4 hbb
   obtain ⟨hgd,hf3⟩:=h2
   have h3:=alts_good hb hi hg _ (Nat.le_refl _) (s0:=st) h1.2 hf3 hgd.ok ⟨hgd.lo,hgd.span,hgd.hi⟩ hgd.nms (by show 1+st.pos≤_;omega) (Nat.le_refl _) hbb
   have h4:=alts_on hi _ (Nat.le_refl _) h1.2 hbb
   injection h with h;injection h with h5 h6;subst h6;subst h5
   refine ⟨?_,h3.2.2.2.2.2.2⟩
   have hone:(F.one y).len=1:=rfl
   split
   ·rename_i hl1
    obtain ⟨e1,rfl⟩:=h3.2.2.2.2.2.1 (by rw [hl1,hone])
    exact hgd
   ·rename_i hl1
    have h5:=h3.2.2.2.2.1
    have h7:=h3.2.2.2.1
    rw [hone] at h5
    have h6:=h3.2.1.le
    refine ⟨⟨⟨⟨by show (0:Int)≤(st.pos:Int);omega,h6,by show (s4.pos:Int)≤4096;omega⟩,by simp [nd0],trivial,fun _=>rfl,fun _ _=>rfl,fun _=>⟨rfl,rfl⟩,fun _ _=>rfl,?_⟩,h3.2.1.inF (Int.le_refl _),h3.1,trivial⟩,Int.le_refl _,Int.le_refl _,?_⟩
    ·exact .inr (.inr (.inr (.inr (.inr (.inl ⟨rfl,rfl,by show 2≤l.len;omega,by show l.len≤4097;omega⟩)))))
    ·show nmsF (.cons _ l .nil) _=_
     rw [nmsF]
     show (Option.bind (if (6:Int)=7 then _ else _) _).bind _=_
     rw [if_neg (by decide),Option.bind_some,h3.2.2.1]
     rfl
theorem parN_good {bs:List UInt8} (hb:bs.length≤4096):∀ d,GdI bs (parN bs d)
 | 0=>altsP_good hb (fun i h=>by cases h) (fun i h=>by cases h)
 | d+1=>altsP_good hb (fun i h=>by injection h with h;subst h;exact parN_fwd bs d) (fun i h=>by injection h with h;subst h;exact parN_good hb d)
end
section
open Rs (R LeastF)
open As (Nd Tr Fit NdIn in64)
theorem fix_from {names:List (List UInt8)} (nd:Nd):(fixN names nd).from_=nd.from_∧(fixN names nd).to_=nd.to_∧(fixN names nd).kind=nd.kind∧(fixN names nd).name=nd.name∧(fixN names nd).set=nd.set∧(fixN names nd).mn=nd.mn∧(fixN names nd).mx=nd.mx∧(fixN names nd).mode=nd.mode∧(nd.kind≠4→(fixN names nd).num=nd.num):=by
 unfold fixN
 split
 ·rename_i h;exact ⟨rfl,rfl,rfl,rfl,rfl,rfl,rfl,rfl,fun e=>absurd h.1 e⟩
 ·exact ⟨rfl,rfl,rfl,rfl,rfl,rfl,rfl,rfl,fun _=>rfl⟩
theorem idx_lt (s:List UInt8):∀ (l:List (List UInt8)) (k:Nat),idxOf s l k=0∨idxOf s l k<k+l.length
 | [],k=>.inl rfl
 | t :: l,k=>by
  unfold idxOf
  split
  ·right;rw [List.length_cons];omega
  ·rcases idx_lt s l (k+1) with h|h
   ·exact .inl h
   ·right;rw [List.length_cons];omega
theorem leastF_lenP:∀ (l:List R) (p:Int),-2≤p→LeastF p l→2*(l.length:Int)≤max 0 (1114367-p)∧∀ r∈l,in64 r.1
 | [],p,_,_=>⟨by simp;omega,fun r hr=>by cases hr⟩
 | r :: l,p,hp,h=>by
  have h':=h
  simp only [LeastF] at h'
  have h1:=leastF_lenP l r.2 (by omega) h'.2.2.2
  refine ⟨by rw [List.length_cons];push_cast;omega,fun x hx=>?_⟩
  rcases List.mem_cons.1 hx with rfl|hx
  ·unfold in64;omega
  ·exact h1.2 x hx
theorem idx_in:∀ (F:F) (i:Nat),i+F.size≤1000000→∀ k∈F.idx i,in64 k
 | .nil,i,h,k,hk=>by cases hk
 | .cons nd ks r,i,h,k,hk=>by
  have h':i+(1+ks.size+r.size)≤1000000:=h
  rcases List.mem_cons.1 hk with rfl|hk
  ·unfold in64;omega
  ·exact idx_in r (i+1+ks.size) (by omega) k hk
theorem ok_in {names:List (List UInt8)} (hn:names.length≤100):∀ (F:F) (i:Nat),okF F→i+F.size≤1000000→∀ nd∈layF names F i,NdIn nd∧nd.set.length≤8796093021952
 | .nil,i,h,hi,nd,hnd=>by cases hnd
 | .cons a ks r,i,h,hi,nd,hnd=>by
  have hi':i+(1+ks.size+r.size)≤1000000:=hi
  obtain ⟨h1,-,h3,h4⟩:=h
  rcases List.mem_cons.1 hnd with rfl|hnd
  ·obtain ⟨f1,f2,f3,f4,f5,f6,f7,f8,f9⟩:=fix_from (names:=names) a
   obtain ⟨⟨g1,g2,g3⟩,g4,g5,-,-,g6,g7,g8⟩:=h1
   have hl:=leastF_lenP a.set (-2) (by omega) g5
   have hnum:in64 (fixN names a).num:=by
    unfold fixN
    split
    ·have:=idx_lt a.name names 0
     show in64 ((idxOf a.name names 0:Nat):Int)
     unfold in64
     omega
    ·unfold in64;omega
   refine ⟨⟨?_,?_,?_,hnum,?_,?_,?_,?_,idx_in ks (i+1) (by omega)⟩,?_⟩
   ·show in64 (fixN names a).kind;rw [f3];unfold in64;omega
   ·show in64 (fixN names a).from_;rw [f1];unfold in64;omega
   ·show in64 (fixN names a).to_;rw [f2];unfold in64;omega
   ·show in64 (fixN names a).mn;rw [f6];unfold in64;omega
   ·show in64 (fixN names a).mx;rw [f7];unfold in64;omega
   ·show in64 (fixN names a).mode;rw [f8];unfold in64;omega
   ·show ∀ r∈(fixN names a).set,in64 r.1;rw [f5];exact hl.2
   ·show (fixN names a).set.length≤_;rw [f5];omega
  ·rcases List.mem_append.1 hnd with hnd|hnd
   ·exact ok_in hn ks (i+1) h3 (by omega) nd hnd
   ·exact ok_in hn r (i+1+ks.size) h4 (by omega) nd hnd
theorem parse_parts {bs:List UInt8} {t:Tr} (h:parseP bs=.ok t):∃ x st,bs.length≤4096∧parN bs 100 ⟨0,⟨false,false,false,false⟩,[[]]⟩=.ok (x,st)∧t=⟨layF st.names (.one x) 0,(st.names.length:Int)-1,st.names⟩∧Gd ⟨0,⟨false,false,false,false⟩,[[]]⟩ x st∧Few st∧1+x.kids.size≤16385:=by
 unfold parseP at h
 split at h
 ·cases h
 ·rename_i hb
  split at h
  ·cases h
  ·rename_i x st hp
   split at h
   ·cases h
   ·injection h with h
    have hb':bs.length≤4096:=by omega
    have hfw:=parN_fwd bs 100 _ _ _ (Nat.zero_le _) hp
    obtain ⟨hg,hf⟩:=parN_good hb' 100 _ _ _ (Nat.zero_le _) (by show 1≤1∧1≤100;omega) hp
    have hs:=parN_sz bs 100 _ _ _ (Nat.zero_le _) hp
    simp only [] at hs
    exact ⟨x,st,hb',hp,h.symm,hg,hf,by omega⟩
theorem parse_fit {bs:List UInt8} {t:Tr} (h:parseP bs=.ok t):Fit t:=by
 obtain ⟨x,st,hb,hp,rfl,hg,hf,hs⟩:=parse_parts h
 have hsz:(F.one x).size=1+x.kids.size:=rfl
 have hin:=ok_in hf.2 (.one x) 0 hg.ok (by rw [hsz];omega)
 refine ⟨?_,fun nd hnd=>(hin nd hnd).2,fun nd hnd=>(hin nd hnd).1,?_⟩
 ·show (layF st.names (.one x) 0).length≤_
  rw [layF_len,hsz];omega
 ·have:=hf
  unfold Few at this
  show in64 ((st.names.length:Int)-1)
  unfold in64
  omega
end
end Go.Proofs.YtmlbklcmblofkaaGreatDoor.Pa
