/-
  Plain functions, no program: how many parts a pattern can have: at most four a byte, and one.
-/
import Derived.Test.YtmlbklcmblofkaaGreatDoorMPaC
set_option linter.unusedSimpArgs false
set_option linter.unusedVariables false
set_option maxHeartbeats 8000000
set_option maxRecDepth 100000
namespace Go.Proofs.YtmlbklcmblofkaaGreatDoor.Pa
section
open Sy (g)
open Sc (It cntP nameP escz escP clsz g_in)
open As (Nd)
variable {bs:List UInt8} {inner:Option (St→Res Pt)} {k fr:Nat} {st:St} {l:F}
theorem cnt_on (h:(cntP bs k).is=true):k<(cntP bs k).to∧(cntP bs k).to≤bs.length∧(cntP bs k).mode≤2∧(cntP bs k).lo≤1001∧-1≤(cntP bs k).hi∧(cntP bs k).hi≤1001:=by
 unfold cntP at h ⊢
 cases hc:Sc.countsP bs k with
 | none=>rw [hc] at h;simp at h
 | some t=>
  obtain ⟨lo,hi,tq⟩:=t
  have hb:=Sc.counts_bound hc
  have hm:=Sc.mode_cases bs tq
  rw [hc] at h
  simp only [] at h ⊢
  cases hk:Sc.okC lo hi with
  | false=>rw [hk] at h;simp at h
  | true=>
   simp only [if_true]
   rcases hm.1 with h1|⟨h1,h2⟩
   ·rw [if_pos h1];omega
   ·rw [if_neg h1];omega
theorem skip_on (bs:List UInt8) (st:St) (hp:st.pos≤bs.length):st.pos≤(skipP bs st).pos∧(skipP bs st).pos≤bs.length∧(skipP bs st).names=st.names∧(skipP bs st).fl=st.fl:=by
 unfold skipP
 split
 ·have h1:=Sc.blk_ge bs st.pos false
  have h2:=Sc.blk_le bs st.pos false
  exact ⟨h1,by simp only [];omega,rfl,rfl⟩
 ·exact ⟨Nat.le_refl _,hp,rfl,rfl⟩
theorem stA_len {bs:List UInt8}:∀ (q:List Nat) (k:Nat),(∀ c∈q,0<c)→0<q.length→stA bs k q=true→k+q.length≤bs.length
 | [],k,_,h0,_=>absurd h0 (by simp)
 | [c],k,hc,_,h=>by
  unfold stA at h
  simp only [Bool.and_eq_true,decide_eq_true_eq] at h
  have:=g_in (bs:=bs) (k:=k) (by have:=hc c (by simp);omega)
  simp;omega
 | c :: d :: l,k,hc,_,h=>by
  rw [stA] at h
  simp only [Bool.and_eq_true,decide_eq_true_eq] at h
  have:=stA_len (d :: l) (k+1) (fun x hx=>hc x (List.mem_cons_of_mem _ hx)) (by simp) h.2
  simp at this ⊢;omega
theorem name_on {tq:Nat} {s:List UInt8} (h:nameP bs k=some (s,tq)):k<tq∧tq≤bs.length∧s.length≤32:=by
 unfold nameP at h
 split at h
 ·rename_i h1
  injection h with h
  injection h with h2 h3
  subst h2;subst h3
  have:=g_in (bs:=bs) (k:=k+Sc.wl bs k) (by omega)
  refine ⟨by omega,by omega,?_⟩
  rw [List.length_take];omega
 ·cases h
def InX (bs:List UInt8) (k:Nat):It→Prop
 | .err e=>e≠0
 | .lit n q=>k<q∧q≤bs.length∧n≤1114367
 | .cls c q=>k<q∧q≤bs.length
 | .nam s t q=>k<q∧q≤bs.length
 | .hld n q=>k<q∧q≤bs.length
 | .ref n q=>k<q∧q≤bs.length
 | .key s q=>k<q∧q≤bs.length
theorem esc_in (hk:k≤bs.length):InX bs k (escP bs false k):=by
 unfold escP
 rw [if_neg (by simp)]
 split
 ·rename_i h
  have hl:=g_in (bs:=bs) (k:=k) (by omega)
  unfold Sc.keyP
  split
  ·cases hn:nameP bs (k+1+1) with
   | none=>exact (by decide:(36:Nat)≠0)
   | some t=>
    obtain ⟨s,tq⟩:=t
    have:=name_on hn
    exact ⟨by omega,this.2.1⟩
  ·exact (by decide:(36:Nat)≠0)
 ·split
  ·rename_i h1 h2
   have hl:=g_in (bs:=bs) (k:=k) (by omega)
   unfold Sc.refP
   split
   ·rename_i h3
    have hl:=g_in (bs:=bs) (k:=k+1) (fun e=>by rw [e] at h3;cases h3)
    exact ⟨by omega,by omega⟩
   ·exact ⟨by omega,by omega⟩
  ·cases hh:Sc.hldO (g bs k) with
   | some n=>
    have hl:=g_in (bs:=bs) (k:=k) (Sc.hldO_low hh).2
    exact ⟨by omega,by omega⟩
   | none=>
    have:=Sc.com_in hk
    revert this
    simp only []
    cases Sc.comP bs k<;>simp only [Sc.InC,InX]<;>intro h<;>first|exact h.1|exact ⟨h.1,h.2.1,h.2.2⟩|exact ⟨h.1,h.2.1⟩|exact h.elim
theorem escz_in (h:g bs k=92):InX bs (k+1) (escz bs false (k:Int)):=by
 have hl:=g_in (bs:=bs) (k:=k) (by omega)
 rw [Sc.escz_yes false h]
 exact esc_in (by omega)
theorem clsF_on2 {bs:List UInt8} {i f:Nat}:∀ (n k:Nat) (acc:List Sc.Part) {l:List Sc.Part} {q:Nat},bs.length-k≤n→Sc.clsF bs i f k acc=.ok (l,q)→k<q∧q≤bs.length∧l.length≤acc.length+(q-k)
 | 0,k,acc,l,q,hn,h=>by
  rw [Sc.clsF_end (by omega)] at h;cases h
 | n+1,k,acc,l,q,hn,h=>by
  by_cases h1:k<bs.length
  ·by_cases h2:k≠f∧g bs k=93
   ·rw [Sc.clsF_stop h1 h2.1 h2.2] at h
    injection h with h;injection h with h3 h4;subst h3;subst h4;omega
   ·cases hp:Sc.partP bs k with
    | error e=>rw [Sc.clsF_err h1 h2 hp] at h;cases h
    | ok t=>
     obtain ⟨p,tq⟩:=t
     have hpi:=Sc.part_in (bs:=bs) (k:=k) h1
     rw [hp] at hpi
     have hto:k<tq:=hpi.1
     rw [Sc.clsF_on h1 h2 hp hto] at h
     have:=clsF_on2 n tq (acc++[p]) (by omega) h
     rw [List.length_append] at this
     simp only [List.length_singleton] at this
     omega
  ·rw [Sc.clsF_end (by omega)] at h;cases h
theorem cls_on {q:Nat} {l:List Sc.Part} (h:clsz bs (k:Int)=.ok (l,q)):k<q∧q≤bs.length:=by
 unfold clsz at h
 split at h
 ·unfold Sc.clsP at h
  have:=clsF_on2 _ _ _ (Nat.le_refl _) h
  have h2:k<Sc.fsP bs ((k:Int).toNat):=by unfold Sc.fsP;rw [Int.toNat_natCast];split<;>omega
  omega
 ·cases h
def Fwd (bs:List UInt8) (inner:St→Res Pt):Prop:=∀ st x st2,st.pos≤bs.length→inner st=.ok (x,st2)→st.pos≤st2.pos∧st2.pos≤bs.length
theorem quant_on {x y:Pt} {st2:St} (hp:st.pos≤bs.length) (h:quantP bs x fr st=.ok (y,st2)):st.pos≤st2.pos∧st2.pos≤bs.length:=by
 have h1:=skip_on bs st hp
 unfold quantP at h
 dsimp only at h
 split at h
 ·cases h
 ·split at h
  ·injection h with h;injection h with h2 h3;subst h3;exact ⟨h1.1,h1.2.1⟩
  ·rename_i hi
   have hc:=cnt_on (bs:=bs) (k:=(skipP bs st).pos) (by simpa using hi)
   split at h
   ·cases h
   ·injection h with h;injection h with h2 h3;subst h3
    have h4:=skip_on bs { skipP bs st with pos:=(cntP bs (skipP bs st).pos).to } hc.2.1
    simp only [] at h4
    omega
theorem within_on {inner:St→Res Pt} (hi:Fwd bs inner) {n:Nd} {fr:Nat} {fl:Fl} {st st2:St} {x:Pt} {m:Bool} (h1:st.pos<fr) (h2:fr≤bs.length) (h:withinP bs inner n fr fl st=.ok ((x,m),st2)):st.pos<st2.pos∧st2.pos≤bs.length:=by
 unfold withinP at h
 split at h
 ·cases h
 ·rename_i y s3 hin
  have:=hi _ _ _ (by exact h2) hin
  simp only [] at this
  split at h
  ·cases h
  ·injection h with h;injection h with h3 h4;subst h4
   simp only []
   omega
theorem group_on {inner:St→Res Pt} (hi:Fwd bs inner) {name:List UInt8} {fr:Nat} {st st2:St} {x:Pt} {m:Bool} (h1:st.pos<fr) (h2:fr≤bs.length) (h:groupP bs inner name fr st=.ok ((x,m),st2)):st.pos<st2.pos∧st2.pos≤bs.length:=by
 unfold groupP at h
 split at h
 ·cases h
 ·exact within_on hi (st:={ st with names:=st.names++[name] }) h1 h2 h
theorem fnd1_on {bs:List UInt8}:∀ (n k j:Nat),bs.length-k≤n→fnd1 bs k=some j→k≤j∧j<bs.length
 | n,k,j,hn,h=>by
  rw [fnd1] at h
  split at h
  ·split at h
   ·injection h with h;omega
   ·cases n with
    | zero=>omega
    | succ n=>have:=fnd1_on n (k+1) j (by omega) h;omega
  ·cases h
theorem let_on {bs:List UInt8} {b:Bool}:∀ (n:Nat) (fl:Fl) (k:Nat),bs.length-k≤n→k≤(letP bs b fl k).2∧(letP bs b fl k).2≤max k bs.length
 | n,fl,k,hn=>by
  rw [letP]
  split
  ·cases n with
   | zero=>omega
   | succ n=>
    have hr:=fun fl'=>let_on (bs:=bs) (b:=b) n fl' (k+1) (by omega)
    split
    ·have:=hr { fl with i:=b };omega
    ·split
     ·have:=hr { fl with m:=b };omega
     ·split
      ·have:=hr { fl with s:=b };omega
      ·split
       ·have:=hr { fl with x:=b };omega
       ·simp only [];omega
  ·simp only [];omega
theorem flg_on (fl:Fl) {k:Nat} (hk:k≤bs.length):k≤(flgP bs fl k).2.1∧(flgP bs fl k).2.1≤(flgP bs fl k).2.2∧(flgP bs fl k).2.2≤bs.length:=by
 have h1:=let_on (bs:=bs) (b:=true) _ fl k (Nat.le_refl _)
 unfold flgP
 split
 ·rename_i h
  have hl:=g_in (bs:=bs) (k:=(letP bs true fl k).2) (by omega)
  have h2:=let_on (bs:=bs) (b:=false) _ (letP bs true fl k).1 ((letP bs true fl k).2+1) (Nat.le_refl _)
  simp only []
  omega
 ·simp only []
  omega
theorem flagged_on {inner:St→Res Pt} (hi:Fwd bs inner) {k:Nat} {st st2:St} {x:Pt} {m:Bool} (h1:st.pos<k) (hk:k≤bs.length) (h:flaggedP bs inner k st=.ok ((x,m),st2)):st.pos<st2.pos∧st2.pos≤bs.length:=by
 have hf:=flg_on (bs:=bs) st.fl hk
 unfold flaggedP at h
 split at h
 ·cases h
 ·rename_i h0
  have h0':(flgP bs st.fl k).2.2<bs.length:=Nat.lt_of_not_le fun e=>h0 (.inr e)
  split at h
  ·injection h with h;injection h with h2 h3;subst h3
   simp only []
   omega
  ·split at h
   ·exact within_on hi (by omega) (by omega) h
   ·cases h
theorem paren_on (hi:∀ i,inner=some i→Fwd bs i) {st st2:St} {x:Pt} {m:Bool} (hp:st.pos<bs.length) (h:parenP bs inner st=.ok ((x,m),st2)):st.pos<st2.pos∧st2.pos≤bs.length:=by
 unfold parenP at h
 cases inner with
 | none=>cases h
 | some i=>
  have hi:=hi i rfl
  simp only [] at h
  have hl:∀ q:List Nat,(∀ c∈q,0<c)→0<q.length→stA bs st.pos q=true→st.pos+q.length≤bs.length:=fun q h1 h2 h3=>stA_len q st.pos h1 h2 h3
  split at h
  ·exact group_on hi (by omega) (by omega) h
  ·rename_i h0
   have h2:=hl [40,63] (by decide) (by decide) (by simpa using h0)
   simp only [List.length_cons,List.length_nil] at h2
   split at h
   ·unfold remarkP at h
    split at h
    ·cases h
    ·rename_i j hj
     have:=fnd1_on _ _ _ (Nat.le_refl _) hj
     injection h with h;injection h with h2 h3;subst h3
     simp only []
     omega
   ·split at h
    ·rename_i h3
     have h3:=hl [40,63,58] (by decide) (by decide) h3
     exact within_on hi (by omega) (by simpa using h3) h
    ·split at h
     ·rename_i h3
      have h3:=hl [40,63,62] (by decide) (by decide) h3
      exact within_on hi (by omega) (by simpa using h3) h
     ·split at h
      ·rename_i h3
       have h3:=hl [40,63,61] (by decide) (by decide) h3
       exact within_on hi (by omega) (by simpa using h3) h
      ·split at h
       ·rename_i h3
        have h3:=hl [40,63,33] (by decide) (by decide) h3
        exact within_on hi (by omega) (by simpa using h3) h
       ·split at h
        ·rename_i h3
         have h3:=hl [40,63,60,61] (by decide) (by decide) h3
         exact within_on hi (by omega) (by simpa using h3) h
        ·split at h
         ·rename_i h3
          have h3:=hl [40,63,60,33] (by decide) (by decide) h3
          exact within_on hi (by omega) (by simpa using h3) h
         ·split at h
          ·unfold namedP at h
           split at h
           ·cases h
           ·rename_i s fr hn
            have:=name_on hn
            split at h
            ·cases h
            ·exact group_on hi (by omega) (by omega) h
          ·exact flagged_on hi (by omega) (by omega) h
theorem atom_on (hi:∀ i,inner=some i→Fwd bs i) {st st2:St} {x:Pt} {m:Bool} (hp:st.pos<bs.length) (h:atomP bs inner st=.ok ((x,m),st2)):st.pos<st2.pos∧st2.pos≤bs.length:=by
 unfold atomP at h
 split at h
 ·exact paren_on hi hp h
 ·split at h
  ·unfold classP at h
   split at h
   ·cases h
   ·rename_i l q hc
    have:=cls_on hc
    injection h with h;injection h with h2 h3;subst h3
    exact this
  ·split at h
   ·rename_i h92
    have:=escz_in h92
    unfold escPt at h
    revert this h
    cases escz bs false (st.pos:Int)<;>simp only [InX]<;>intro h a<;>first|(injection h with h;injection h with h2 h3;subst h3;simp only [setP,leafP,It.to];omega)|cases h
   ·split at h
    ·injection h with h;injection h with h2 h3;subst h3;simp only [leafP];omega
    ·split at h
     ·injection h with h;injection h with h2 h3;subst h3;simp only [leafP];omega
     ·split at h
      ·injection h with h;injection h with h2 h3;subst h3;simp only [setP,leafP];omega
      ·have:=Sc.sym_snd (bs:=bs) (k:=st.pos) hp
       injection h with h;injection h with h2 h3;subst h3;simp only [setP,leafP];omega
theorem piece_on (hi:∀ i,inner=some i→Fwd bs i) {st st2:St} {x:Pt} (hp:st.pos<bs.length) (h:pieceP bs inner st=.ok (x,st2)):st.pos<st2.pos∧st2.pos≤bs.length:=by
 unfold pieceP at h
 split at h
 ·cases h
 ·split at h
  ·cases h
  ·split at h
   ·cases h
   ·rename_i y may s3 ha
    have h1:=atom_on hi hp ha
    split at h
    ·have:=quant_on h1.2 h;omega
    ·injection h with h;injection h with h2 h3;subst h3;exact h1
theorem end_no (h:endB bs k=false):k<bs.length:=by
 unfold endB at h
 simp only [Bool.or_eq_false_iff,decide_eq_false_iff_not] at h
 omega
theorem alt_on {bs:List UInt8} {inner:Option (St→Res Pt)} (hi:∀ i,inner=some i→Fwd bs i) {fr:Nat}:∀ (n:Nat) {st st2:St} {l:F} {x:Pt},bs.length-st.pos≤n→st.pos≤bs.length→altF bs inner fr st l=.ok (x,st2)→st.pos≤st2.pos∧st2.pos≤bs.length
 | n,st,st2,l,x,hn,hp,h=>by
  have h1:=skip_on bs st hp
  rw [altF] at h
  split at h
  ·injection h with h;injection h with h2 h3;subst h3;exact ⟨h1.1,h1.2.1⟩
  ·rename_i he
   have hl:=end_no (bs:=bs) (k:=(skipP bs st).pos) (by simpa using he)
   split at h
   ·cases h
   ·rename_i y s3 hpc
    have h3:=piece_on hi hl hpc
    split at h
    ·rename_i hg
     cases n with
     | zero=>omega
     | succ n=>have:=alt_on hi n (by omega) h3.2 h;omega
    ·cases h
theorem alt_step (hi:∀ i,inner=some i→Fwd bs i) {fr:Nat} {st st2:St} {l:F} {x:Pt} (hp:st.pos≤bs.length) (he:endB bs (skipP bs st).pos=false) (h:pieceP bs inner (skipP bs st)=.ok (x,st2)):altF bs inner fr st l=altF bs inner fr st2 (if x.nd.kind=0 then l else l.app x):=by
 have h1:=skip_on bs st hp
 have hl:=end_no he
 have h3:=piece_on hi hl h
 rw [altF,if_neg (by rw [he];simp),h]
 simp only []
 rw [dif_pos (by omega)]
theorem alt_bad {e:Er} (he:endB bs (skipP bs st).pos=false) (h:pieceP bs inner (skipP bs st)=.error e):altF bs inner fr st l=.error e:=by
 rw [altF,if_neg (by rw [he];simp),h]
theorem alt_end (he:endB bs (skipP bs st).pos=true):altF bs inner fr st l=.ok (rowP l fr,skipP bs st):=by
 rw [altF,if_pos he]
theorem alts_on {bs:List UInt8} {inner:Option (St→Res Pt)} (hi:∀ i,inner=some i→Fwd bs i):∀ (n:Nat) {st st2:St} {l x:F},bs.length-st.pos≤n→st.pos≤bs.length→altsF bs inner st l=.ok (x,st2)→st.pos≤st2.pos∧st2.pos≤bs.length
 | n,st,st2,l,x,hn,hp,h=>by
  rw [altsF] at h
  split at h
  ·rename_i hs
   have hl:=stA_len [124] st.pos (by decide) (by decide) hs
   simp only [List.length_cons,List.length_nil] at hl
   split at h
   ·cases h
   ·rename_i y s3 ha
    have h3:=alt_on hi _ (Nat.le_refl _) (by simpa using hl) ha
    simp only [] at h3
    split at h
    ·cases n with
     | zero=>omega
     | succ n=>have:=alts_on hi n (by omega) h3.2 h;omega
    ·cases h
  ·injection h with h;injection h with h2 h3;subst h3;exact ⟨Nat.le_refl _,hp⟩
theorem alts_step (hi:∀ i,inner=some i→Fwd bs i) {st st2:St} {l:F} {x:Pt} (hs:stA bs st.pos [124]=true) (h:altP bs inner { st with pos:=st.pos+1 }=.ok (x,st2)):altsF bs inner st l=altsF bs inner st2 (l.app x):=by
 have hl:=stA_len [124] st.pos (by decide) (by decide) hs
 simp only [List.length_cons,List.length_nil] at hl
 have h3:=alt_on hi _ (Nat.le_refl _) (by simpa using hl) h
 simp only [] at h3
 rw [altsF,if_pos hs,h]
 simp only []
 rw [dif_pos (by omega)]
theorem alts_bad {e:Er} (hs:stA bs st.pos [124]=true) (h:altP bs inner { st with pos:=st.pos+1 }=.error e):altsF bs inner st l=.error e:=by
 rw [altsF,if_pos hs,h]
theorem alts_end (hs:stA bs st.pos [124]=false):altsF bs inner st l=.ok (l,st):=by
 rw [altsF,if_neg (by rw [hs];simp)]
theorem altsP_fwd (hi:∀ i,inner=some i→Fwd bs i):Fwd bs (altsP bs inner):=fun st x st2 hp h=>by
 unfold altsP at h
 split at h
 ·cases h
 ·rename_i y s3 ha
  have h1:=alt_on hi _ (Nat.le_refl _) hp ha
  split at h
  ·cases h
  ·rename_i l s4 hb
   have h2:=alts_on hi _ (Nat.le_refl _) h1.2 hb
   injection h with h;injection h with h3 h4;subst h4
   omega
theorem parN_fwd (bs:List UInt8):∀ d,Fwd bs (parN bs d)
 | 0=>altsP_fwd fun i h=>by cases h
 | d+1=>altsP_fwd fun i h=>by injection h with h;subst h;exact parN_fwd bs d
end
section
open Go.RowKit Mem
open Rs (R)
attribute [local go_sem] build_pz build_fl build_f0
abbrev flV (f:Fl):Value:=.agg #[.bool f.i,.bool f.m,.bool f.s,.bool f.x]
abbrev ndV (k n:Int) (s:List UInt8):Value:=.agg #[.int .i64 k,.int .i64 0,.int .i64 0,.int .i64 n,.int .i64 0,.int .i64 0,.int .i64 0,.string ⟨s.toArray⟩,.slice none 0 0,.slice none 0 0]
theorem build_nd0 (w:World):Sem.run Tryz.prog (Instr.build 49 #[]) w=.ok (ndV 0 0 []) w:=run_build w 49 _ _ (by kernel_rfl)
theorem build_nd1 (k:Int) (w:World):Sem.run Tryz.prog (Instr.build 49 #[(0,.int .i64 k)]) w=.ok (ndV k 0 []) w:=run_build w 49 _ _ (by kernel_rfl)
theorem build_nd2 (k n:Int) (w:World):Sem.run Tryz.prog (Instr.build 49 #[(0,.int .i64 k),(3,.int .i64 n)]) w=.ok (ndV k n []) w:=run_build w 49 _ _ (by kernel_rfl)
theorem build_nd3 (k n:Int) (s:List UInt8) (w:World):Sem.run Tryz.prog (Instr.build 49 #[(0,.int .i64 k),(3,.int .i64 n),(7,.string ⟨s.toArray⟩)]) w=.ok (ndV k n s) w:=run_build w 49 _ _ (by kernel_rfl)
attribute [local go_sem] build_nd2
theorem look_any {bs:List UInt8} {A:Option Addr} {cap:Nat} {w0:World} {rb nest:Nat} {st:St} {nv:Value} {w:World} (h:Rd bs A cap w0 rb nest st nv w) (R:Res (Pt×Bool)) (num:Int) (fr:Nat)
  (CC:∀ W,Rd bs A cap w0 rb nest st nv W→Calls Tryz.prog 67 #[Value.pointer (some ⟨rb,0,none⟩),ndV 10 num [],.int .i64 (fr:Int),flV st.fl] W (GiveA bs A cap w0 rb nest nv W R)) :
  Calls Tryz.prog 68 #[Value.pointer (some ⟨rb,0,none⟩),.int .i64 num,.int .i64 (fr:Int)] w (GiveA bs A cap w0 rb nest nv w R):=by
 obtain ⟨hbb,HS,HKP,HKF,HB,HW,hlt,habv⟩:=pro h
 have CC:=hide CC
 have q0:=(h.below hbb).c0
 have q1:=(h.below hbb).c1
 have q2:=(h.below hbb).c2
 have q3:=(h.below hbb).c3
 have q4:=(h.below hbb).c4
 have q5:=(h.below hbb).c5
 have q6:=(h.below hbb).c6
 clear h hbb
 go_enter Tryz.func68,Tryz.ntmps68
 go_wp2_with fail
 generalize ((w.alloc (.cells pz 78)).alloc (.cells fz 80))=X at *
 have hXs:w.heap.size+2≤X.heap.size:=HKF.1.lt
 refine (CC.1 _ HS.1.1).mono ?_
 rintro e w5 hG
 obtain ⟨u0,u1,u2,u3,u4,u5,u6,s,L,ln,lc,K,kn,kc,b,c,p,st',nv',rfl,hL⟩:=hG.form
 have hk5:=Left.blk HS.1.1 hL (HKP.1.below HS.1.2 HKP.1.lt) (by decide) (by omega)
 have hf5:=Left.blk HS.1.1 hL (HKF.1.below HS.1.2 HKF.1.lt) (by decide) (by omega)
 obtain ⟨⟨y0,y1,y2,y3,y4,y5,y6,y7,y8,y9,y10⟩,z0,z1,z2,z3,z4,z5,z6,z7,z8,z9,z10⟩:=cells11 hk5
 obtain ⟨⟨u20,u21⟩,v20,v21⟩:=cells2 hf5
 have HBW:=hide (HB.1.trans (HS.1.2.mono HB.1.size))
 have hWs:w.heap.size+2≤_:=Nat.le_trans hXs HS.1.2.size
 have HK5:=hide hk5
 have HF5:=hide hf5
 have HG:=hide hG
 clear hk5 hf5 hL hG CC HS
 go_wp2_with fail
 (try simp only [Exit.inBlock,Exit.then])
 have hq:=blk13 HK5.1 HF5.1 (by omega) rfl rfl
 exact bodyPost_ret (rctc rfl w.heap.size (w.heap.size+1) (.bool b) rfl rfl rfl (hq _ _ _ _ _ _ _ _ _ _ _ _ _)) rfl (GiveA.on HBW.1 HG.1 HK5.1 HF5.1 hlt (Nat.le_refl _) (by omega) (by omega) (by omega) (by omega) _ _ _ _ _ _ _ _ _ _ _ _ _)
end
section
open Sc (Ct cntP escz)
open As (Nd)
variable {bs:List UInt8} {inner:Option (St→Res Pt)}
theorem layF_len (names:List (List UInt8)):∀ (F:F) (i:Nat),(layF names F i).length=F.size
 | .nil,_=>rfl
 | .cons nd ks r,i=>by
  show (_ :: (layF names ks (i+1)++layF names r (i+1+ks.size))).length=1+ks.size+r.size
  rw [List.length_cons,List.length_append,layF_len names ks,layF_len names r];omega
def SzI (bs:List UInt8) (inner:St→Res Pt):Prop:=∀ st x st2,st.pos≤bs.length→inner st=.ok (x,st2)→1+x.kids.size+4*st.pos≤4*st2.pos+1
theorem app_sz (x:Pt):∀ l:F,(l.app x).size=l.size+(1+x.kids.size)
 | .nil=>by show 1+x.kids.size+0=0+(1+x.kids.size);omega
 | .cons nd ks r=>by
  show 1+ks.size+(r.app x).size=1+ks.size+r.size+(1+x.kids.size)
  rw [app_sz x r];omega
theorem F.len_ap (x:Pt):∀ l:F,(l.app x).len=l.len+1
 | .nil=>rfl
 | .cons _ _ r=>by show (r.app x).len+1=r.len+1+1;rw [F.len_ap x r]
theorem rep_sz (x:Pt) (fr:Nat) (c:Ct):(repP x fr c).kids.size≤x.kids.size+2:=by
 unfold repP
 split
 ·show 1+(1+x.kids.size+0)+0≤_;omega
 ·show 1+x.kids.size+0≤_;omega
theorem quant_sz {x y:Pt} {fr:Nat} {st st2:St} (hp:st.pos≤bs.length) (h:quantP bs x fr st=.ok (y,st2)):y.kids.size+4*st.pos≤x.kids.size+4*st2.pos:=by
 have h1:=skip_on bs st hp
 unfold quantP at h
 dsimp only at h
 split at h
 ·cases h
 ·split at h
  ·injection h with h;injection h with h2 h3;subst h2;subst h3;omega
  ·rename_i hi
   have hc:=cnt_on (bs:=bs) (k:=(skipP bs st).pos) (by simpa using hi)
   split at h
   ·cases h
   ·injection h with h;injection h with h2 h3;subst h2;subst h3
    have h4:=skip_on bs { skipP bs st with pos:=(cntP bs (skipP bs st).pos).«to» } hc.2.1
    have h5:=rep_sz x fr (cntP bs (skipP bs st).pos)
    simp only [] at h4
    omega
theorem within_sz {inner:St→Res Pt} (hi:Fwd bs inner) (hs:SzI bs inner) {n:Nd} {fr:Nat} {fl:Fl} {st st2:St} {x:Pt} {m:Bool} (h1:st.pos<fr) (h2:fr≤bs.length) (h:withinP bs inner n fr fl st=.ok ((x,m),st2)):1+x.kids.size+4*st.pos≤4*st2.pos:=by
 unfold withinP at h
 split at h
 ·cases h
 ·rename_i y s3 hin
  have h3:=hi _ _ _ (by exact h2) hin
  have h4:=hs _ _ _ (by exact h2) hin
  simp only [] at h3 h4
  split at h
  ·cases h
  ·injection h with h;injection h with h5 h6;subst h6
   injection h5 with h5 h7
   have h8:x.kids.size≤1+y.kids.size:=by
    rw [← h5]
    split
    ·omega
    ·show 1+y.kids.size+0≤_;omega
   simp only []
   omega
theorem group_sz {inner:St→Res Pt} (hi:Fwd bs inner) (hs:SzI bs inner) {name:List UInt8} {fr:Nat} {st st2:St} {x:Pt} {m:Bool} (h1:st.pos<fr) (h2:fr≤bs.length) (h:groupP bs inner name fr st=.ok ((x,m),st2)):1+x.kids.size+4*st.pos≤4*st2.pos:=by
 unfold groupP at h
 split at h
 ·cases h
 ·exact within_sz hi hs (st:={ st with names:=st.names++[name] }) h1 h2 h
theorem flagged_sz {inner:St→Res Pt} (hi:Fwd bs inner) (hs:SzI bs inner) {k:Nat} {st st2:St} {x:Pt} {m:Bool} (h1:st.pos<k) (hk:k≤bs.length) (h:flaggedP bs inner k st=.ok ((x,m),st2)):1+x.kids.size+4*st.pos≤4*st2.pos:=by
 have hf:=flg_on (bs:=bs) st.fl hk
 unfold flaggedP at h
 split at h
 ·cases h
 ·rename_i h0
  have h0':(flgP bs st.fl k).2.2<bs.length:=Nat.lt_of_not_le fun e=>h0 (.inr e)
  split at h
  ·injection h with h;injection h with h2 h3;subst h3
   injection h2 with h2 h4
   subst h2
   show 1+0+_≤_
   simp only []
   omega
  ·split at h
   ·exact within_sz hi hs (by omega) (by omega) h
   ·cases h
theorem paren_sz (hi:∀ i,inner=some i→Fwd bs i) (hs:∀ i,inner=some i→SzI bs i) {st st2:St} {x:Pt} {m:Bool} (hp:st.pos<bs.length) (h:parenP bs inner st=.ok ((x,m),st2)):1+x.kids.size+4*st.pos≤4*st2.pos:=by
 unfold parenP at h
 cases inner with
 | none=>cases h
 | some i=>
  have hi:=hi i rfl
  have hs:=hs i rfl
  simp only [] at h
  have hl:∀ q:List Nat,(∀ c∈q,0<c)→0<q.length→stA bs st.pos q=true→st.pos+q.length≤bs.length:=fun q h1 h2 h3=>stA_len q st.pos h1 h2 h3
  split at h
  ·exact group_sz hi hs (by omega) (by omega) h
  ·rename_i h0
   have h2:=hl [40,63] (by decide) (by decide) (by simpa using h0)
   simp only [List.length_cons,List.length_nil] at h2
   split at h
   ·unfold remarkP at h
    split at h
    ·cases h
    ·rename_i j hj
     have:=fnd1_on _ _ _ (Nat.le_refl _) hj
     injection h with h;injection h with h2 h3;subst h3
     injection h2 with h2 h4
     subst h2
     show 1+0+_≤_
     simp only []
     omega
   ·split at h
    ·rename_i h3
     have h3:=hl [40,63,58] (by decide) (by decide) h3
     exact within_sz hi hs (by omega) (by simpa using h3) h
    ·split at h
     ·rename_i h3
      have h3:=hl [40,63,62] (by decide) (by decide) h3
      exact within_sz hi hs (by omega) (by simpa using h3) h
     ·split at h
      ·rename_i h3
       have h3:=hl [40,63,61] (by decide) (by decide) h3
       exact within_sz hi hs (by omega) (by simpa using h3) h
      ·split at h
       ·rename_i h3
        have h3:=hl [40,63,33] (by decide) (by decide) h3
        exact within_sz hi hs (by omega) (by simpa using h3) h
       ·split at h
        ·rename_i h3
         have h3:=hl [40,63,60,61] (by decide) (by decide) h3
         exact within_sz hi hs (by omega) (by simpa using h3) h
        ·split at h
         ·rename_i h3
          have h3:=hl [40,63,60,33] (by decide) (by decide) h3
          exact within_sz hi hs (by omega) (by simpa using h3) h
         ·split at h
          ·unfold namedP at h
           split at h
           ·cases h
           ·rename_i s fr hn
            have:=name_on hn
            split at h
            ·cases h
            ·exact group_sz hi hs (by omega) (by omega) h
          ·exact flagged_sz hi hs (by omega) (by omega) h
theorem leaf_sz {a b:Nat} (h:a<b):1+(F.nil).size+4*a≤4*b:=by show 1+0+_≤_;omega
theorem may_sz {c:Bool} {n:Nd} {st st2:St} {q:Nat} {x:Pt} {m:Bool} (h:mayP c (leafP n st q)=.ok ((x,m),st2)) (hq:st.pos<st2.pos):1+x.kids.size+4*st.pos≤4*st2.pos:=by
 unfold mayP at h
 injection h with h;injection h with h2 h3
 injection h2 with h2 h4
 subst h2
 exact leaf_sz hq
theorem atom_sz (hi:∀ i,inner=some i→Fwd bs i) (hs:∀ i,inner=some i→SzI bs i) {st st2:St} {x:Pt} {m:Bool} (hp:st.pos<bs.length) (h:atomP bs inner st=.ok ((x,m),st2)):1+x.kids.size+4*st.pos≤4*st2.pos:=by
 have hon:=(atom_on hi hp h).1
 unfold atomP at h
 split at h
 ·exact paren_sz hi hs hp h
 ·split at h
  ·unfold classP at h
   split at h
   ·cases h
   ·exact may_sz h hon
  ·split at h
   ·unfold escPt at h
    revert h
    cases escz bs false (st.pos:Int)<;>intro h<;>first|exact may_sz h hon|cases h
   ·split at h
    ·exact may_sz h hon
    ·split at h
     ·exact may_sz h hon
     ·split at h
      ·exact may_sz h hon
      ·exact may_sz h hon
theorem piece_sz (hi:∀ i,inner=some i→Fwd bs i) (hs:∀ i,inner=some i→SzI bs i) {st st2:St} {x:Pt} (hp:st.pos<bs.length) (h:pieceP bs inner st=.ok (x,st2)):1+x.kids.size+4*st.pos≤4*st2.pos:=by
 unfold pieceP at h
 split at h
 ·cases h
 ·split at h
  ·cases h
  ·split at h
   ·cases h
   ·rename_i y may s3 ha
    have h1:=atom_sz hi hs hp ha
    have h2:=atom_on hi hp ha
    split at h
    ·have:=quant_sz h2.2 h;omega
    ·injection h with h;injection h with h2 h3;subst h2;subst h3;exact h1
theorem row_sz (l:F) (fr:Nat):1+(rowP l fr).kids.size≤l.size+1:=by
 match l with
 | .nil=>exact Nat.le_refl _
 | .cons nd ks .nil=>show 1+ks.size≤1+ks.size+0+1;omega
 | .cons nd ks (.cons a b c)=>show 1+(F.cons nd ks (.cons a b c)).size≤_;omega
theorem alt_sz {bs:List UInt8} {inner:Option (St→Res Pt)} (hi:∀ i,inner=some i→Fwd bs i) (hs:∀ i,inner=some i→SzI bs i) {fr:Nat}:∀ (n:Nat) {st st2:St} {l:F} {x:Pt},bs.length-st.pos≤n→st.pos≤bs.length→altF bs inner fr st l=.ok (x,st2)→1+x.kids.size+4*st.pos≤l.size+4*st2.pos+1
 | n,st,st2,l,x,hn,hp,h=>by
  have h1:=skip_on bs st hp
  cases he:endB bs (skipP bs st).pos with
  | true=>
   rw [alt_end he] at h
   injection h with h;injection h with h2 h3;subst h2;subst h3
   have:=row_sz l fr
   omega
  | false=>
   have hl:=end_no he
   cases hpc:pieceP bs inner (skipP bs st) with
   | error e=>rw [alt_bad he hpc] at h;cases h
   | ok t=>
    obtain ⟨y,s3⟩:=t
    rw [alt_step hi hp he hpc] at h
    have h3:=piece_on hi hl hpc
    have h4:=piece_sz hi hs hl hpc
    cases n with
    | zero=>omega
    | succ n=>
     have ih:=alt_sz hi hs n (st:=s3) (by omega) h3.2 h
     have h5:(if y.nd.kind=0 then l else l.app y).size≤l.size+(1+y.kids.size):=by
      split
      ·omega
      ·rw [app_sz];exact Nat.le_refl _
     omega
theorem alts_sz {bs:List UInt8} {inner:Option (St→Res Pt)} (hi:∀ i,inner=some i→Fwd bs i) (hs:∀ i,inner=some i→SzI bs i):∀ (n:Nat) {st st2:St} {l x:F},bs.length-st.pos≤n→st.pos≤bs.length→altsF bs inner st l=.ok (x,st2)→x.size+3*x.len+4*st.pos≤l.size+3*l.len+4*st2.pos
 | n,st,st2,l,x,hn,hp,h=>by
  cases hs2:stA bs st.pos [124] with
  | false=>
   rw [alts_end hs2] at h
   injection h with h;injection h with h2 h3;subst h2;subst h3;omega
  | true=>
   have hl:=stA_len [124] st.pos (by decide) (by decide) hs2
   simp only [List.length_cons,List.length_nil] at hl
   cases ha:altP bs inner { st with pos:=st.pos+1 } with
   | error e=>rw [alts_bad hs2 ha] at h;cases h
   | ok t=>
    obtain ⟨y,s3⟩:=t
    rw [alts_step hi hs2 ha] at h
    have hp':(St.mk (st.pos+1) st.fl st.names).pos≤bs.length:=by simpa using hl
    have h3:=alt_on hi _ (Nat.le_refl _) hp' ha
    have h4:=alt_sz hi hs _ (Nat.le_refl _) hp' ha
    simp only [] at h3 h4
    cases n with
    | zero=>omega
    | succ n=>
     have ih:=alts_sz hi hs n (st:=s3) (by omega) h3.2 h
     rw [app_sz,F.len_ap] at ih
     have:(F.nil).size=0:=rfl
     omega
theorem alts_len {bs:List UInt8} {inner:Option (St→Res Pt)} (hi:∀ i,inner=some i→Fwd bs i):∀ (n:Nat) {st st2:St} {l x:F},bs.length-st.pos≤n→altsF bs inner st l=.ok (x,st2)→l.len≤x.len
 | n,st,st2,l,x,hn,h=>by
  cases hs2:stA bs st.pos [124] with
  | false=>
   rw [alts_end hs2] at h
   injection h with h;injection h with h2 h3;subst h2;exact Nat.le_refl _
  | true=>
   have hl:=stA_len [124] st.pos (by decide) (by decide) hs2
   simp only [List.length_cons,List.length_nil] at hl
   cases ha:altP bs inner { st with pos:=st.pos+1 } with
   | error e=>rw [alts_bad hs2 ha] at h;cases h
   | ok t=>
    obtain ⟨y,s3⟩:=t
    rw [alts_step hi hs2 ha] at h
    have hp':(St.mk (st.pos+1) st.fl st.names).pos≤bs.length:=by simpa using hl
    have h3:=alt_on hi _ (Nat.le_refl _) hp' ha
    simp only [] at h3
    cases n with
    | zero=>omega
    | succ n=>
     have ih:=alts_len hi n (st:=s3) (by omega) h
     rw [F.len_ap] at ih
     omega
theorem altsP_sz (hi:∀ i,inner=some i→Fwd bs i) (hs:∀ i,inner=some i→SzI bs i):SzI bs (altsP bs inner):=fun st x st2 hp h=>by
 unfold altsP at h
 cases ha:altP bs inner st with
 | error e=>rw [ha] at h;cases h
 | ok t=>
  obtain ⟨y,s1⟩:=t
  rw [ha] at h
  simp only [] at h
  have h1:=alt_on hi _ (Nat.le_refl _) hp ha
  have h2:=alt_sz hi hs _ (Nat.le_refl _) hp ha
  have h0:(F.nil).size=0:=rfl
  cases hb:altsF bs inner s1 (.one y) with
  | error e=>rw [hb] at h;cases h
  | ok t=>
   obtain ⟨l,s2⟩:=t
   rw [hb] at h
   simp only [] at h
   have h3:=alts_sz hi hs _ (Nat.le_refl _) h1.2 hb
   have h4:(F.one y).size=1+y.kids.size:=rfl
   have h5:(F.one y).len=1:=rfl
   injection h with h;injection h with h6 h7;subst h7
   rw [← h6]
   have hon:=alts_on hi _ (Nat.le_refl _) h1.2 hb
   split
   ·omega
   ·rename_i hl
    show 1+l.size+_≤_
    have:=alts_len hi _ (Nat.le_refl _) hb
    omega
theorem parN_sz (bs:List UInt8):∀ d,SzI bs (parN bs d)
 | 0=>altsP_sz (fun i e=>by cases e) (fun i e=>by cases e)
 | d+1=>altsP_sz (fun i e=>by injection e with e;subst e;exact parN_fwd bs d) (fun i e=>by injection e with e;subst e;exact parN_sz bs d)
end
end Go.Proofs.YtmlbklcmblofkaaGreatDoor.Pa
