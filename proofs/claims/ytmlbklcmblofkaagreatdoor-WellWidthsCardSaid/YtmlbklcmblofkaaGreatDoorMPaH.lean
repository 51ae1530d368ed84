/-
  The reader's letters, walked.
-/
import Derived.Test.YtmlbklcmblofkaaGreatDoorMPaQu
set_option linter.unusedSimpArgs false
set_option linter.unusedVariables false
namespace Go.Proofs.YtmlbklcmblofkaaGreatDoor.Pa
open Go.RowKit Mem
open Sy (g)
section
variable {P:Program}
end
theorem RB.own {bs:List UInt8} {A:Option Addr} {cap:Nat} {w0:World} {rb nest:Nat} {st:St} {nv:Value} {w wr:World} {g j:Nat} (h0:Rd bs A cap w0 rb nest st nv w) (h:RB bs A cap w0 rb nest st nv w wr) (hg:w.heap.size≤g) (u:Value):RB bs A cap w0 rb nest st nv w (wr.setCell ⟨g,j,none⟩ u):=
 ⟨h0.below (h.2.setCell (p:=⟨g,j,none⟩) hg u),h.2.setCell (p:=⟨g,j,none⟩) hg u⟩
end Go.Proofs.YtmlbklcmblofkaaGreatDoor.Pa
