/-
  The anchor of the laws on patterns, walked: true.
-/
import Derived.Test.YtmlbklcmblofkaaGreatDoorMPaP
set_option linter.unusedSimpArgs false
set_option linter.unusedVariables false
namespace Go.Proofs.YtmlbklcmblofkaaGreatDoor.Pa
section
open Sy (g)
open Sc (cntP)
variable {bs:List UInt8} {k:Nat}
def flZ:Fl:=⟨false,false,false,false⟩
theorem skip_z {st:St} (h:st.fl.x=false):skipP bs st=st:=by unfold skipP;rw [h];rfl
theorem cnt_no (h1:g bs k≠42) (h2:g bs k≠43) (h3:g bs k≠63) (h4:g bs k≠123):cntP bs k=⟨0,0,0,0,false,0⟩:=by
 unfold cntP Sc.countsP
 rw [if_neg h1,if_neg h2,if_neg h3,if_neg h4]
theorem end_yes (h:bs.length≤k∨g bs k=124∨g bs k=41):endB bs k=true:=by
 unfold endB stA stA
 rcases h with h|h|h
 ·rw [decide_eq_true h];rfl
 ·rw [h];simp
 ·rw [h];simp
theorem end_not (h:k<bs.length) (h1:g bs k≠124) (h2:g bs k≠41):endB bs k=false:=by
 unfold endB stA stA
 simp [h,h1,h2]
theorem alts_one {inner:Option (St→Res Pt)} (hi:∀ i,inner=some i→Fwd bs i) {st st2:St} {x:Pt} (hx:st.fl.x=false) (hp:st.pos≤bs.length) (he:endB bs st.pos=false) (h:pieceP bs inner st=.ok (x,st2)) (hk:x.nd.kind≠0) (hx2:st2.fl.x=false) (he2:endB bs st2.pos=true) (hb:stA bs st2.pos [124]=false) :
  altsP bs inner st=.ok (x,st2):=by
 have ha:altP bs inner st=.ok (x,st2):=by
  unfold altP
  have hs:=skip_z (bs:=bs) hx
  rw [alt_step hi hp (by rw [hs];exact he) (by rw [hs];exact h),if_neg hk,alt_end (by rw [skip_z hx2];exact he2),skip_z hx2]
  rfl
 unfold altsP
 rw [ha]
 simp only []
 rw [alts_end hb]
 rfl
theorem piece_plain {inner:Option (St→Res Pt)} {st st2:St} {x:Pt} {may:Bool} (h1:cntP bs st.pos=⟨0,0,0,0,false,0⟩) (h:atomP bs inner st=.ok ((x,may),st2)) (hx2:st2.fl.x=false) (h2:cntP bs st2.pos=⟨0,0,0,0,false,0⟩):pieceP bs inner st=.ok (x,st2):=by
 unfold pieceP
 rw [h1,if_neg (by simp),if_neg (by simp),h]
 simp only []
 cases may with
 | false=>rfl
 | true=>
  rw [if_pos rfl]
  unfold quantP
  rw [skip_z hx2,h2,if_neg (by simp),if_pos rfl]
end
section
open Go.RowKit Mem
attribute [local go_sem] build_pz build_fl build_f0
theorem lit_pvP (w:World) (bs:List UInt8) (C:Array Value) (fr:Nat×Nat) (hC:C.toList=bs.map u8) (hl:bs.length≤1000) (hs:simB bs=true:=by decide +kernel):PVS bs (some ⟨w.heap.size,0,none⟩) bs.length (w.alloc (.cells C 5 fr)):=by
 refine ⟨⟨Nat.le_refl _,by omega,by rw [List.length_map,Nat.mul_one],fun _=>⟨_,rfl,by simp,fun j u hu=>?_⟩⟩,hs⟩
 rw [Go.WideShapes.add_plain,Nat.zero_add,World.cell?_alloc_mark,← Array.getElem?_toList,hC]
 exact hu
end
end Go.Proofs.YtmlbklcmblofkaaGreatDoor.Pa
