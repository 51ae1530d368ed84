/-
  Plain functions, no program: widths of nodes, from behind; in a right tree they are ordered.
-/
import Derived.Test.YtmlbklcmblofkaaGreatDoorMPaPu
set_option linter.unusedSimpArgs false
set_option linter.unusedVariables false
namespace Go.Proofs.YtmlbklcmblofkaaGreatDoor.We
open As
abbrev Wd:=Int×Int
def unb (w:Wd):Bool:=w.2==-1
def capW (w:Wd):Wd:=(min w.1 1048576,if 1048576<w.2 then -1 else w.2)
def addW (s w:Wd):Wd:=capW (s.1+w.1,if unb s||unb w then -1 else s.2+w.2)
def sumW (l:List Wd):Wd:=l.foldl addW (0,0)
def orW (x w:Wd):Wd:=(min x.1 w.1,if unb x||unb w then -1 else max x.2 w.2)
def eithW:List Wd→Wd
 | []=>(0,0)
 | x :: r=>r.foldl orW x
def timesW (mn mx:Int) (k:Wd):Wd:=capW (mn*k.1,if k.2=0 then 0 else if unb k||mx==-1 then -1 else mx*k.2)
def ofW (nd:Nd) (ks:List Wd):Wd:=
 if nd.kind=2 then (1,1) else if nd.kind=4 then (0,-1) else if nd.kind=6 then eithW ks
 else if nd.kind=7∨nd.kind=9∨nd.kind=5 then sumW ks else if nd.kind=8 then timesW nd.mn nd.mx (sumW ks) else (0,0)
def kidsW (kids:List Int) (arr:List Wd):List Wd:=kids.filterMap fun k=>if 0≤k then arr[k.toNat]? else none
def backW (N:List Nd):Nat→List Wd→List Wd
 | 0,arr=>arr
 | i+1,arr=>match N[i]? with
  | some nd=>backW N i (arr.set i (ofW nd (kidsW nd.kids arr)))
  | none=>backW N i arr
def widthsW (N:List Nd):List Wd:=backW N N.length (List.replicate N.length (0,0))
structure OkW (w:Wd):Prop where
 lo:0≤w.1
 top:w.1≤1048576
 hi:-1≤w.2
 cap:w.2≤1048576
 ord:0≤w.2→w.1≤w.2
theorem OkW.unb {w:Wd} (h:OkW w) (hu:unb w=false):0≤w.2:=by
 have h1:=h.hi
 have h2:w.2≠-1:=by simpa [We.unb] using hu
 omega
theorem ok_zero:OkW (0,0):=⟨by decide,by decide,by decide,by decide,by decide⟩
theorem ok_cap {w:Wd} (h0:0≤w.1) (h1:-1≤w.2) (h2:0≤w.2→w.1≤w.2):OkW (capW w):=by
 unfold capW
 refine ⟨?_,?_,?_,?_,?_⟩<;>simp only []<;>(try split)<;>omega
theorem ok_add {s w:Wd} (hs:OkW s) (hw:OkW w):OkW (addW s w):=by
 unfold addW
 have a:=hs.lo;have b:=hw.lo
 by_cases h:(We.unb s||We.unb w)=true
 ·rw [if_pos h]
  exact ok_cap (by simp only [];omega) (by simp) (fun h=>by simp at h)
 ·rw [if_neg h]
  have h':We.unb s=false∧We.unb w=false:=by simpa [Bool.or_eq_true,not_or] using h
  have c:=hs.unb h'.1;have d:=hw.unb h'.2
  have e:=hs.ord c;have f:=hw.ord d
  exact ok_cap (by simp only [];omega) (by simp only [];omega) (fun _=>by simp only [];omega)
def Le (a b:Wd):Prop:=a.1≤b.1∧(0≤b.2→0≤a.2∧a.2≤b.2)
theorem Le.refl {a:Wd}:Le a a:=⟨Int.le_refl _,fun h=>⟨h,Int.le_refl _⟩⟩
theorem Le.trans {a b c:Wd} (h:Le a b) (k:Le b c):Le a c:=⟨Int.le_trans h.1 k.1,fun hc=>by
 obtain ⟨h1,h2⟩:=k.2 hc
 obtain ⟨h3,h4⟩:=h.2 h1
 exact ⟨h3,Int.le_trans h4 h2⟩⟩
theorem le_add_both {s w:Wd} (hs:OkW s) (hw:OkW w):Le s (addW s w)∧Le w (addW s w):=by
 have a:=hs.lo;have b:=hw.lo;have a':=hs.top;have b':=hw.top
 unfold addW capW Le
 by_cases h:(We.unb s||We.unb w)=true
 ·rw [if_pos h]
  simp only []
  refine ⟨⟨by omega,fun h=>?_⟩,by omega,fun h=>?_⟩<;>(exfalso;revert h;split<;>omega)
 ·rw [if_neg h]
  have h':We.unb s=false∧We.unb w=false:=by simpa [Bool.or_eq_true,not_or] using h
  have c:=hs.unb h'.1;have d:=hw.unb h'.2
  simp only []
  refine ⟨⟨by omega,fun h=>?_⟩,by omega,fun h=>?_⟩<;>(revert h;split<;>omega)
theorem ok_fold:∀ (l:List Wd) (s:Wd),OkW s→(∀ w∈l,OkW w)→OkW (l.foldl addW s)∧Le s (l.foldl addW s)∧∀ w∈l,Le w (l.foldl addW s)
 | [],s,hs,_=>⟨hs,Le.refl,by simp⟩
 | w :: r,s,hs,h=>by
  have hw:=h w (by simp)
  obtain ⟨h1,h2,h3⟩:=ok_fold r (addW s w) (ok_add hs hw) (fun v hv=>h v (by simp [hv]))
  obtain ⟨k1,k2⟩:=le_add_both hs hw
  refine ⟨h1,k1.trans h2,fun v hv=>?_⟩
  rcases List.mem_cons.1 hv with rfl|hv
  ·exact k2.trans h2
  ·exact h3 v hv
theorem ok_sum {l:List Wd} (h:∀ w∈l,OkW w):OkW (sumW l)∧∀ w∈l,Le w (sumW l):=by
 obtain ⟨h1,-,h3⟩:=ok_fold l (0,0) ok_zero h
 exact ⟨h1,h3⟩
theorem ok_or {x w:Wd} (hx:OkW x) (hw:OkW w):OkW (orW x w):=by
 have a:=hx.lo;have b:=hw.lo;have a':=hx.top;have b':=hw.top;have c:=hx.cap;have d:=hw.cap;have e:=hx.hi;have f:=hw.hi
 have g:=hx.ord;have i:=hw.ord
 unfold orW
 by_cases h:(We.unb x||We.unb w)=true
 ·rw [if_pos h]
  exact ⟨by simp only [];omega,by simp only [];omega,by simp,by simp,fun h=>by simp at h⟩
 ·rw [if_neg h]
  have h':We.unb x=false∧We.unb w=false:=by simpa [Bool.or_eq_true,not_or] using h
  have c:=hx.unb h'.1;have d:=hw.unb h'.2
  have g:=g c;have i:=i d
  exact ⟨by simp only [];omega,by simp only [];omega,by simp only [];omega,by simp only [];omega,fun _=>by simp only [];omega⟩
theorem ok_eith:∀ {l:List Wd},(∀ w∈l,OkW w)→OkW (eithW l)
 | [],_=>ok_zero
 | x :: r,h=>by
  have key:∀ (l:List Wd) (s:Wd),OkW s→(∀ w∈l,OkW w)→OkW (l.foldl orW s):=by
   intro l
   induction l with
   | nil=>exact fun s hs _=>hs
   | cons w r ih=>exact fun s hs h=>ih _ (ok_or hs (h w (by simp))) (fun v hv=>h v (by simp [hv]))
  exact key r x (h x (by simp)) (fun v hv=>h v (by simp [hv]))
theorem ok_times {mn mx:Int} {k:Wd} (hk:OkW k) (h0:0≤mn) (h1:mn≤1000) (h2:-1≤mx) (h3:mx≤1000) (h4:mx=-1∨mn≤mx):OkW (timesW mn mx k):=by
 have a:=hk.lo;have b:=hk.ord;have c:=hk.hi
 unfold timesW
 refine ok_cap (Int.mul_nonneg h0 a) ?_ ?_
 ·simp only []
  split
  ·omega
  ·split
   ·omega
   ·rename_i hz hu
    have hu':We.unb k=false∧¬ mx=-1:=by simpa [Bool.or_eq_true,not_or] using hu
    have:=hk.unb hu'.1
    have:0≤mx*k.2:=Int.mul_nonneg (by omega) this
    omega
 ·simp only []
  intro hh
  split
  ·rename_i hz
   have:k.1=0:=by have:=b (by omega);omega
   rw [this];simp
  ·rename_i hz
   rw [if_neg hz] at hh
   split
   ·rename_i hu
    rw [if_pos hu] at hh
    omega
   ·rename_i hu
    have hu':We.unb k=false∧¬ mx=-1:=by simpa [Bool.or_eq_true,not_or] using hu
    have h5:=hk.unb hu'.1
    have h6:mn≤mx:=by omega
    calc mn*k.1≤mx*k.1:=Int.mul_le_mul_of_nonneg_right h6 a
     _≤mx*k.2:=Int.mul_le_mul_of_nonneg_left (b h5) (by omega)
def RepOk (nd:Nd):Prop:=nd.kind=8→0≤nd.mn∧nd.mn≤1000∧-1≤nd.mx∧nd.mx≤1000∧(nd.mx=-1∨nd.mn≤nd.mx)
theorem ok_of {nd:Nd} {ks:List Wd} (hr:RepOk nd) (h:∀ w∈ks,OkW w):OkW (ofW nd ks):=by
 unfold ofW
 split
 ·exact ⟨by decide,by decide,by decide,by decide,by decide⟩
 ·split
  ·exact ⟨by decide,by decide,by decide,by decide,by decide⟩
  ·split
   ·exact ok_eith h
   ·split
    ·exact (ok_sum h).1
    ·split
     ·rename_i h8
      obtain ⟨a,b,c,d,e⟩:=hr h8
      exact ok_times (ok_sum h).1 a b c d e
     ·exact ok_zero
theorem kids_in {kids:List Int} {arr:List Wd} (h:∀ w∈arr,OkW w):∀ w∈kidsW kids arr,OkW w:=by
 intro w hw
 obtain ⟨k,-,hk⟩:=List.mem_filterMap.1 hw
 split at hk
 ·exact h w (List.mem_of_getElem? hk)
 ·cases hk
theorem back_len (N:List Nd):∀ (i:Nat) (arr:List Wd),(backW N i arr).length=arr.length
 | 0,arr=>rfl
 | i+1,arr=>by
  unfold backW
  cases N[i]? with
  | none=>exact back_len N i arr
  | some nd=>rw [back_len N i,List.length_set]
theorem back_ok (N:List Nd) (hN:∀ nd∈N,RepOk nd):∀ (i:Nat) (arr:List Wd),(∀ w∈arr,OkW w)→∀ w∈backW N i arr,OkW w
 | 0,arr,h=>h
 | i+1,arr,h=>by
  unfold backW
  cases hi:N[i]? with
  | none=>exact back_ok N hN i arr h
  | some nd=>
   refine back_ok N hN i _ (fun w hw=>?_)
   rcases List.mem_or_eq_of_mem_set hw with hw|rfl
   ·exact h w hw
   ·exact ok_of (hN nd (List.mem_of_getElem? hi)) (kids_in h)
theorem widths_len (N:List Nd):(widthsW N).length=N.length:=by unfold widthsW;rw [back_len,List.length_replicate]
theorem widths_ok (N:List Nd) (hN:∀ nd∈N,RepOk nd):∀ w∈widthsW N,OkW w:=
 back_ok N hN _ _ (fun w hw=>by rw [List.eq_of_mem_replicate hw];exact ok_zero)
theorem back_far (N:List Nd):∀ (i:Nat) (arr:List Wd) (k:Nat),i≤k→(backW N i arr)[k]?=arr[k]?
 | 0,arr,k,_=>rfl
 | i+1,arr,k,hk=>by
  unfold backW
  cases N[i]? with
  | none=>exact back_far N i arr k (by omega)
  | some nd=>simp only [];rw [back_far N i _ k (by omega),List.getElem?_set_ne (by omega)]
theorem back_at (N:List Nd):∀ (i:Nat) (arr:List Wd) (j:Nat) (nd:Nd),j<i→N[j]?=some nd→arr.length=N.length→∃ mid,mid.length=N.length∧(backW N i arr)[j]?=some (ofW nd (kidsW nd.kids mid))∧∀ k,j<k→(backW N i arr)[k]?=mid[k]?
 | 0,arr,j,nd,hj,_,_=>absurd hj (by omega)
 | i+1,arr,j,nd,hj,hn,hl=>by
  have hjl:j<N.length:=(List.getElem?_eq_some_iff.1 hn).1
  unfold backW
  by_cases hji:j=i
  ·subst hji
   rw [hn]
   simp only []
   refine ⟨arr,hl,?_,fun k hk=>?_⟩
   ·rw [back_far N j _ j (Nat.le_refl _),List.getElem?_set_self (by omega)]
   ·rw [back_far N j _ k (by omega),List.getElem?_set_ne (by omega)]
  ·cases N[i]? with
   | none=>exact back_at N i arr j nd (by omega) hn hl
   | some m=>exact back_at N i _ j nd (by omega) hn (by rw [List.length_set];exact hl)
theorem fm_congr {α β:Type} {f g:α→Option β}:∀ l:List α,(∀ a∈l,f a=g a)→l.filterMap f=l.filterMap g
 | [],_=>rfl
 | a :: r,h=>by rw [List.filterMap_cons,List.filterMap_cons,h a (by simp),fm_congr r (fun b hb=>h b (by simp [hb]))]
theorem kids_far {kids:List Int} {a b:List Wd} {j:Nat} (hk:∀ y∈kids,∃ k:Nat,y=(k:Int)∧j<k) (h:∀ k,j<k→a[k]?=b[k]?):kidsW kids a=kidsW kids b:=by
 unfold kidsW
 refine fm_congr _ fun y hy=>?_
 obtain ⟨k,rfl,hj⟩:=hk y hy
 simp only [Int.natCast_nonneg,if_true,Int.toNat_natCast]
 exact h k hj
theorem widths_at {N:List Nd} (hk:∀ j nd,N[j]?=some nd→∀ y∈nd.kids,∃ k:Nat,y=(k:Int)∧j<k) {j:Nat} {nd:Nd} (hn:N[j]?=some nd):(widthsW N)[j]?=some (ofW nd (kidsW nd.kids (widthsW N))):=by
 obtain ⟨mid,-,h1,h2⟩:=back_at N N.length (List.replicate N.length (0,0)) j nd (List.getElem?_eq_some_iff.1 hn).1 hn (by simp)
 have e:kidsW nd.kids (widthsW N)=kidsW nd.kids mid:=kids_far (hk j nd hn) h2
 rw [e]
 exact h1
def behB (nd:Nd):Bool:=nd.kind==10&&(nd.num==3||nd.num==4)
def wrongB (nd:Nd) (g:Int) (k:Wd):Int:=if nd.kind=4∧(nd.num<1∨g<nd.num) then 38 else if behB nd=true∧(unb k=true∨255<k.2) then 41 else 0
def chkL (g:Int) (ws:List Wd):List Nd→Int×Int
 | []=>(0,0)
 | nd :: r=>if wrongB nd g (sumW (kidsW nd.kids ws))=0 then chkL g ws r else (wrongB nd g (sumW (kidsW nd.kids ws)),nd.from_)
def checkT (t:Tr):Int×Int:=chkL t.groups (widthsW t.nodes) t.nodes
theorem chk_at {g:Int} {ws:List Wd}:∀ {l:List Nd} {k:Nat} {nd:Nd},l[k]?=some nd→(∀ x∈l.take k,wrongB x g (sumW (kidsW x.kids ws))=0)→wrongB nd g (sumW (kidsW nd.kids ws))≠0→chkL g ws l=(wrongB nd g (sumW (kidsW nd.kids ws)),nd.from_)
 | [],k,nd,h,_,_=>by simp at h
 | x :: r,0,nd,h,_,hw=>by
  simp only [List.getElem?_cons_zero,Option.some.injEq] at h
  subst h
  unfold chkL
  rw [if_neg hw]
 | x :: r,k+1,nd,h,h0,hw=>by
  unfold chkL
  rw [if_pos (h0 x (by simp))]
  exact chk_at (k:=k) (by simpa using h) (fun y hy=>h0 y (by simp [hy])) hw
theorem chk_no {g:Int} {ws:List Wd}:∀ {l:List Nd},(∀ x∈l,wrongB x g (sumW (kidsW x.kids ws))=0)→chkL g ws l=(0,0)
 | [],_=>rfl
 | x :: r,h=>by
  unfold chkL
  rw [if_pos (h x (by simp))]
  exact chk_no fun y hy=>h y (by simp [hy])
structure NdsOk (N:List Nd):Prop where
 few:N.length≤100000
 rep:∀ nd∈N,RepOk nd
 kids:∀ nd∈N,nd.kids.length≤100000
end Go.Proofs.YtmlbklcmblofkaaGreatDoor.We
