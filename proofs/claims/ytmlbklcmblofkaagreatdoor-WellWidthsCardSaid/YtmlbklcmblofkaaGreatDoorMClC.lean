/-
  The program's class, walked: a name's set; a letter's; a dot's; a word's; the names.
-/
import Derived.RangeFuncBox
import Derived.RangeFuncNested
import Derived.RangeFuncLeaves
import Derived.RangeFuncBound
import Derived.RangeFuncCalls
import Derived.Shelf.Abstract
import Derived.OwnWalkIn
import Derived.TacticsInMore
import Derived.LoopNIn
import Derived.LoopIn
import Derived.Shelf.AbstractIn
import Derived.Laws.ByValue
import Derived.Deep.DeepMust
import Derived.StillTail
import Derived.StillTactics
import Derived.OrdersIn
import Derived.TacticsIn
import Derived.Test.YtmlbklcmblofkaaGreatDoorMClB
import Derived.Test.YtmlbklcmblofkaaGreatDoorMRsF
import Derived.Shelf.SlicesQ.IndexFunc
import Derived.Ground.SlgfProg
import Derived.Shelf.SlicesQ.Equal
import Derived.Ground.SlgqProg
import Derived.Laws.StructEq
set_option linter.unusedSimpArgs false
set_option linter.unusedVariables false
namespace Go.Proofs.YtmlbklcmblofkaaGreatDoor.Cl
section
open Go.RowKit Go.Shelf Mem Rs
def Stays (K:Nat→Prop) (A B:World):Prop:=∀ k,K k→B.heap[k]?=A.heap[k]?
theorem Stays.refl (K:Nat→Prop) (A:World):Stays K A A:=fun _ _=>rfl
theorem Stays.trans {K:Nat→Prop} {A B C:World} (h:Stays K A B) (k:Stays K B C):Stays K A C:=fun i hi=>(k i hi).trans (h i hi)
theorem Stays.of_below {K:Nat→Prop} {A B:World} {N:Nat} (h:Below N A B) (hK:∀ k,K k→k<N):Stays K A B:=fun k hk=>h.block k (hK k hk)
end
section
open Go.RowKit Go.Shelf Mem Rs
variable {l:List R} {v:Value} {w:World}
def GivesL (l:List R) (w:World) (v:Value) (w':World):Prop:=∃ A cap,v=.slice A l.length cap∧l.length≤cap∧cap≤9223372036854775807∧Lst w' w'.heap.size A l∧Below w.heap.size w w'∧∀ ad,A=some ad→0<l.length→w.heap.size≤ad.block
theorem cut_gives {w' w1:World} (h:Cut w l v w1) (hb:Below w1.heap.size w1 w') (hm:True):GivesL l w v w':=by
 obtain ⟨A,cap,rfl,hl,hc,hx⟩:=own_lst h.1
 refine ⟨A,cap,rfl,hc,by unfold maxLen at hx;omega,(hl.below hb).more hb.size,h.2.trans (hb.mono h.2.size),fun ad e hn=>?_⟩
 obtain ⟨g,c',hv,hg,_⟩:=h.1.form hn
 rw [e] at hv
 injection hv with hv
 cases hv
 exact hg
theorem cut_gives' {w1:World} (h:Cut w l v w1):GivesL l w v w1:=cut_gives h (Below.refl _ _) trivial
theorem GivesL.from {w0 w':World} (h:GivesL l w v w') (hb:Below w0.heap.size w0 w):GivesL l w0 v w':=by
 obtain ⟨A,cap,h1,h2,h3,h4,h5,h6⟩:=h
 exact ⟨A,cap,h1,h2,h3,h4,hb.trans (h5.mono hb.size),fun ad e hn=>Nat.le_trans hb.size (h6 ad e hn)⟩
end
end Go.Proofs.YtmlbklcmblofkaaGreatDoor.Cl
