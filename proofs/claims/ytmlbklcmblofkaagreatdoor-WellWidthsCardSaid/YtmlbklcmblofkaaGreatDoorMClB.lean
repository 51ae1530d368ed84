/-
  class.find, walked over the table of sets as it lies (a name and the ends of its ranges, as texts), with eithe
-/
import Derived.Test.YtmlbklcmblofkaaGreatDoorMMemA
import Derived.WalkHide
import Derived.Test.YtmlbklcmblofkaaGreatDoorProg
import Derived.LoopTactic
import Derived.Lib.Walk
import Derived.IntWalk
import Derived.KernelRfl
import Derived.Outline
import Derived.Deep.CutRange
import Derived.Deep.WholeRow
set_option linter.unusedSimpArgs false
set_option linter.unusedVariables false
namespace Go.Proofs.YtmlbklcmblofkaaGreatDoor.Cl
section
open Go.RowKit Mem Rs
abbrev str (l:List UInt8):Value:=.string ⟨l.toArray⟩
def endsOf:List R→List UInt8
 | []=>[]
 | r :: l=>UInt8.ofNat r.1.toNat :: UInt8.ofNat r.2.toNat :: endsOf l
def Byt (l:List R):Prop:=∀ r∈l,0≤r.1∧r.1<256∧0≤r.2∧r.2<256
instance (l:List R):Decidable (Byt l):=by unfold Byt;infer_instance
end
section
open Go.RowKit Mem Rs
structure TabAt (b off cap:Nat) (w:World):Prop where
 head:w.cell? ⟨4,0,none⟩=some (.slice (some ⟨b,off,none⟩) 14 cap)
 rows:∀ (k:Nat) (n:List UInt8) (l:List R),nmB[k]?=some n→sets[k]?=some l→w.cell? ⟨b,off+k*2,none⟩=some (str n)∧w.cell? ⟨b,off+k*2+1,none⟩=some (str (endsOf l))
 room:14≤cap
 top:cap≤9223372036854775807
def Tb (w:World):Prop:=∃ b off cap,TabAt b off cap w
theorem TabAt.lt {b off cap:Nat} {w:World} (h:TabAt b off cap w):4<w.heap.size∧b<w.heap.size:=⟨cell_lt h.head,cell_lt (h.rows 0 _ _ rfl rfl).1⟩
theorem TabAt.below {b off cap B:Nat} {w w':World} (h:TabAt b off cap w) (hb:Below B w w') (hB:w.heap.size≤B):TabAt b off cap w':=
 ⟨(hb.cell (p:=⟨4,0,none⟩) (by have:=h.lt;show 4<B;omega)).trans h.head,fun k n l hn hl=>by
  obtain ⟨c0,c1⟩:=h.rows k n l hn hl
  exact ⟨(hb.cell (p:=⟨b,off+k*2,none⟩) (by have:=h.lt;show b<B;omega)).trans c0,(hb.cell (p:=⟨b,off+k*2+1,none⟩) (by have:=h.lt;show b<B;omega)).trans c1⟩,h.room,h.top⟩
theorem Tb.below {w w':World} (h:Tb w) (hb:Below w.heap.size w w'):Tb w':=by
 obtain ⟨b,off,cap,h⟩:=h
 exact ⟨b,off,cap,h.below hb (Nat.le_refl _)⟩
end
end Go.Proofs.YtmlbklcmblofkaaGreatDoor.Cl
