/-
  What the laws of stage 13 share: the bytes, the text made of them, and the reference's symbols.
-/
import Derived.Test.YtdeaaidbmneplaaDoorMTxAnchor
set_option linter.unusedSimpArgs false
set_option linter.unusedVariables false
namespace Go.Proofs.YtdeaaidbmneplaaDoor.Tx
open Go.RowKit Go.Proofs.YtdeaaidbmneplaaDoor.Mem Go.Proofs.YtdeaaidbmneplaaDoor.Sy
structure BV (bs : List UInt8) (A : Option Addr) (cap : Nat) (w : World) : Prop where
  room : bs.length ≤ cap
  top : cap ≤ 9223372036854775807
  reads : Reads w w.heap.size 1 A bs.length (bs.map u8)
theorem BV.below {bs : List UInt8} {A : Option Addr} {cap : Nat} {w w' : World} (h : BV bs A cap w) (hb : Below w.heap.size w w') : BV bs A cap w' := ⟨h.room, h.top, (h.reads.below hb).more hb.size⟩
structure LW (bs : List UInt8) (A : Option Addr) (cap : Nat) (l : List Int) (A1 : Option Addr) (c1 g1 : Nat) (A2 : Option Addr) (c2 : Nat) (w wx : World) : Prop where
  bv : BV bs A cap wx
  s1 : SV l A1 c1 wx
  s2 : SV l A2 c2 wx
  tl : Tl wx
  b1 : Blk wx g1 26 #[.slice A1 l.length c1]
  bel : Below w.heap.size w wx
theorem LW.below {bs : List UInt8} {A : Option Addr} {cap : Nat} {l : List Int} {A1 : Option Addr} {c1 g1 : Nat} {A2 : Option Addr} {c2 : Nat} {w wx wy : World} (h : LW bs A cap l A1 c1 g1 A2 c2 w wx) (hb : Below wx.heap.size wx wy) : LW bs A cap l A1 c1 g1 A2 c2 w wy :=
  ⟨h.bv.below hb, h.s1.below hb, h.s2.below hb, h.tl.below hb, h.b1.below hb h.b1.lt, h.bel.trans (hb.mono h.bel.size)⟩
theorem new_bv {bs : List UInt8} {A : Option Addr} {cap : Nat} {W : World} (h : BV bs A cap W) (hT : Tl W) (hl : bs.length ≤ 65536) :
    Calls Tryd.prog 9 #[.slice A bs.length cap] W (NOk (symsZ bs) W.heap.size W) := new_ok bs A cap W hT hl h.room h.top h.reads
theorem all_bv {bs : List UInt8} {A : Option Addr} {cap : Nat} {W : World} (h : BV bs A cap W) (hl : bs.length ≤ 65536) :
    Calls Tryd.prog 10 #[.slice A bs.length cap] W fun e w' => ∃ A2 c2 u, e = .returned (.tuple #[.slice A2 (symsZ bs).length c2, u]) ∧ SV (symsZ bs) A2 c2 w' ∧ Below W.heap.size W w' :=
  (RefAll.ref_all bs A cap W (by omega) h.room h.top h.reads).mono fun e w' ⟨v, u, he, h1, h2, h3⟩ => by
    obtain ⟨A2, c2, rfl, hs⟩ := sv_of (by omega) h1
    exact ⟨A2, c2, u, he, hs, h3⟩
end Go.Proofs.YtdeaaidbmneplaaDoor.Tx
