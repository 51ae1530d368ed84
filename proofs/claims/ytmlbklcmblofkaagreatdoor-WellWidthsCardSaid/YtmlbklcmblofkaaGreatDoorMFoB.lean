/-
  The reference's Orbit, walked: x's orbit, rising.
-/
import Derived.Test.YtmlbklcmblofkaaGreatDoorMMemA
import Derived.Laws.Tables
import Derived.Deep.MidRow
import Derived.IntWalk
import Derived.Lib.Walk
import Derived.Deep.QuietTactic
import Derived.BigQuiet
import Derived.Deep.CutRange
import Derived.Laws.Slices
set_option linter.unusedSimpArgs false
set_option linter.unusedVariables false
namespace Go.Proofs.YtmlbklcmblofkaaGreatDoor.Fo
open Go.RowKit Mem
variable {W:World} {v:Value} {base e size n i:Nat} {xs:List Value} {out cur:List Int}
def i64 (x:Int):Value:=.int .i64 x
def CutI (w:World) (zs:List Int) (v:Value) (w':World):Prop:=w'.ownsRow w.heap.size 3 1 v zs.length (zs.map i64)∧Below w.heap.size w w'
theorem own_base (h:W.ownsRow base e size v n xs):∀ k,v.ownBlock=some k→base≤k:=by
 intro k hk
 rcases h.2 with ⟨rfl,_⟩|⟨g,cap,cur,rfl,hb,_,_⟩
 ·simp [Value.ownBlock] at hk
 ·obtain rfl:g=k:=by simpa [Value.ownBlock] using hk
  exact hb
theorem own_below {W':World} (h:W.ownsRow base e size v n xs) (hb:Below W.heap.size W W'):W'.ownsRow base e size v n xs:=by
 refine ⟨h.1,?_⟩
 rcases h.2 with h|⟨g,cap,cur,rfl,h1,h2,h3⟩
 ·exact .inl h
 ·refine .inr ⟨g,cap,cur,rfl,h1,(hb.block g ?_).trans h2,h3⟩
  rcases Nat.lt_or_ge g W.heap.size with hlt|hge
  ·exact hlt
  ·rw [Array.getElem?_eq_none hge] at h2;cases h2
theorem CutI.on {w W':World} {zs:List Int} (h:CutI w zs v W) (hb:Below W.heap.size W W'):CutI w zs v W':=⟨own_below h.1 hb,h.2.trans (hb.mono h.2.size)⟩
theorem own_reads (h:W.ownsRow base e size v n xs):∃ A cap,v=.slice A n cap∧Reads W W.heap.size size A n xs∧n≤cap:=by
 rcases h.2 with ⟨rfl,hn⟩|⟨g,cap,cur,rfl,hb,hh,hnc,hcm,hcs,ht⟩
 ·exact ⟨none,0,by rw [hn],Reads.of_own (by rw [hn];exact hn ▸ h),by omega⟩
 ·exact ⟨_,cap,rfl,Reads.of_own h,hnc⟩
theorem info_int:(Tryz.prog.info? 3).map (fun i=>(i.zero,i.size,i.bytes))=some (some (.int .i64 0),1,8):=by kernel_rfl
theorem own_lower {base':Nat} (h:W.ownsRow base e size v n xs) (hb:base'≤base):W.ownsRow base' e size v n xs:=by
 refine ⟨h.1,?_⟩
 rcases h.2 with h|⟨g,cap,cur,rfl,h1,h2⟩
 ·exact .inl h
 ·exact .inr ⟨g,cap,cur,rfl,by omega,h2⟩
theorem cut_up {w w1:World} {zs:List Int} (hb:Below w.heap.size w w1) (h:CutI w1 zs v W):CutI w zs v W:=⟨own_lower h.1 hb.size,hb.trans (h.2.mono hb.size)⟩
theorem pw_one (l:List Int):(l.take 1).Pairwise (·≤·):=by
 cases l with
 | nil=>simp
 | cons a t=>simp
def Ins (out:List Int) (i k:Nat) (cur:List Int):Prop:=∃ P e Q Z,cur=P++e :: (Q++Z)∧P.length=k∧k+Q.length=i∧cur.Perm out∧(P++Q).Pairwise (·≤·)∧∀ q∈Q,e≤q
theorem Ins.start (hp:cur.Perm out) (hs:(cur.take i).Pairwise (·≤·)) (hi:i<cur.length):Ins out i i cur:=
 ⟨cur.take i,cur[i],[],cur.drop (i+1),by simp,by rw [List.length_take];omega,by simp,hp,by simpa using hs,by simp⟩
theorem Ins.stop {k:Nat} (h:Ins out i k cur) (hs:k=0∨∃ j p e,k=j+1∧cur[j]?=some p∧cur[k]?=some e∧p≤e):(cur.take (i+1)).Pairwise (·≤·):=by
 obtain ⟨P,e,Q,Z,rfl,hP,hQ,hp,hsort,heq⟩:=h
 have ht:(P++e :: (Q++Z)).take (i+1)=P++e :: Q:=by
  have:P++e :: (Q++Z)=(P++e :: Q)++Z:=by simp
  rw [this,List.take_append_of_le_length (by simp;omega),List.take_of_length_le (by simp;omega)]
 rw [ht]
 rw [List.pairwise_append] at hsort ⊢
 refine ⟨hsort.1,List.pairwise_cons.2 ⟨heq,hsort.2.1⟩,fun a ha b hb=>?_⟩
 rcases List.mem_cons.1 hb with rfl|hb
 ·rcases hs with h0|⟨j,p,e',hj,hpj,hek,hle⟩
  ·rw [List.eq_nil_of_length_eq_zero (hP.trans h0)] at ha;cases ha
  ·have hek':e'=b:=by
    rw [List.getElem?_append_right (by omega),hP,Nat.sub_self] at hek
    simpa using hek.symm
   subst hek'
   rw [List.getElem?_append_left (by omega)] at hpj
   obtain ⟨hjl,hpe⟩:=List.getElem?_eq_some_iff.1 hpj
   obtain ⟨m,hm,rfl⟩:=List.mem_iff_getElem.1 ha
   rcases Nat.lt_or_ge m j with hlt|hge
   ·have:=List.pairwise_iff_getElem.1 hsort.1 m j hm hjl hlt
    omega
   ·obtain rfl:m=j:=by omega
    omega
 ·exact hsort.2.2 a ha b hb
theorem Ins.step {j:Nat} {p e:Int} (h:Ins out i (j+1) cur) (hpj:cur[j]?=some p) (hek:cur[j+1]?=some e) (hlt:e<p):Ins out i j ((cur.set (j+1) p).set j e):=by
 obtain ⟨P,e',Q,Z,rfl,hP,hQ,hp,hsort,heq⟩:=h
 have hek':e'=e:=by
  rw [List.getElem?_append_right (by omega),hP,Nat.sub_self] at hek
  simpa using hek
 subst hek'
 rw [List.getElem?_append_left (by omega)] at hpj
 obtain ⟨hjl,hpe⟩:=List.getElem?_eq_some_iff.1 hpj
 have hPe:P=P.take j++[p]:=by
  have:=List.take_append_drop j P
  rw [List.drop_eq_getElem_cons hjl,hpe,List.drop_of_length_le (by omega)] at this
  exact this.symm
 have hset:((P++e' :: (Q++Z)).set (j+1) p).set j e'=P.take j++e' :: (p :: Q++Z):=by
  have hl:(P.take j).length=j:=by rw [List.length_take];omega
  rw [hPe]
  generalize P.take j=P' at hl ⊢
  subst hl
  simp [List.set_append]
 rw [hset]
 refine ⟨P.take j,e',p :: Q,Z,rfl,by rw [List.length_take];omega,by simp;omega,?_,?_,?_⟩
 ·refine List.Perm.trans ?_ hp
  have e1:P++e' :: (Q++Z)=P.take j++p :: e' :: (Q++Z):=by
   conv=>lhs;rw [hPe]
   simp
  rw [e1]
  exact List.Perm.append_left _ (by simpa using List.Perm.swap p e' (Q++Z))
 ·have:P.take j++p :: Q=P++Q:=by
   conv=>rhs;rw [hPe]
   simp
  rw [this];exact hsort
 ·intro q hq
  rcases List.mem_cons.1 hq with rfl|hq
  ·omega
  ·exact heq q hq
end Go.Proofs.YtmlbklcmblofkaaGreatDoor.Fo
