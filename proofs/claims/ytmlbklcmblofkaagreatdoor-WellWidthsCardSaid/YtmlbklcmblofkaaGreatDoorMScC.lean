/-
  scan.Count, walked.
-/
import Derived.Test.YtmlbklcmblofkaaGreatDoorMScB
import Derived.Test.YtmlbklcmblofkaaGreatDoorMSymB
import Derived.Test.YtmlbklcmblofkaaGreatDoorMRsA
import Derived.Laws.ResultCell
set_option linter.unusedSimpArgs false
set_option linter.unusedVariables false
set_option maxHeartbeats 4000000
set_option maxRecDepth 100000
namespace Go.Proofs.YtmlbklcmblofkaaGreatDoor.Sc
section
open Go.RowKit Mem
theorem at_any (bs:List UInt8) (A:Option Addr) (cap:Nat) (i:Int) (w:World) (hP:PV bs A cap w) (hT:Utf.Tabs w) :
  Calls Tryz.prog 58 #[.slice A bs.length cap,.int .i64 i] w fun e w'=>e=.returned (.tuple #[.int .i64 ((symz bs i).1:Int),.int .i64 ((symz bs i).2:Int)])∧Below w.heap.size w w':=by
 by_cases h0:0≤i
 ·obtain ⟨k,rfl⟩:∃ k:Nat,i=(k:Int):=⟨i.toNat,by omega⟩
  rw [symz_nat]
  rcases Nat.lt_or_ge k bs.length with h|h
  ·unfold sym
   rw [if_pos h]
   exact (At.at_in bs w.heap.size k cap A w hT h hP.room hP.top hP.reads).mono fun e w' h=>h
  ·rw [sym_out h]
   exact (At.at_out bs.length cap A (k:Int) w (.inr (by omega))).mono fun e w' ⟨h1,h2⟩=>⟨h1,h2 ▸ Below.refl _ _⟩
 ·have:symz bs i=(0,0):=by unfold symz;rw [if_neg h0]
  rw [this]
  exact (At.at_out bs.length cap A i w (.inl (by omega))).mono fun e w' ⟨h1,h2⟩=>⟨h1,h2 ▸ Below.refl _ _⟩
end
section
open Go.RowKit Mem
open Sy (g)
variable {w:World}
section
variable {P:Program}
theorem results_cell1 {fn:Func} {p:Tmp} {ty:TypeId} (h:fn.results=#[.cell p ty]) (tmps:Array Value) (w:World) (g:Nat) (cs:Array Value) (d:TypeDesc)
  (hp:tmps.getD p undef=.pointer (some ⟨g,0,none⟩)) (hg:Blk w g ty cs)
  (hu:P.underlying ty=some d) (hd:(match d with | .struct _ | .array _ _=>true | _=>false)=true) (hi:(P.info? ty).map (·.size)=some cs.size) :
  (results fn tmps).run P w=.ok (.agg cs) w:=results_cell_row h tmps w g ty cs (0,0) d hp hg hu hd hi
theorem results_cell2 {fn:Func} {p u:Tmp} {ty:TypeId} (h:fn.results=#[.cell p ty,.tmp u]) (tmps:Array Value) (w:World) (g:Nat) (cs:Array Value) (d:TypeDesc) (v:Value)
  (hp:tmps.getD p undef=.pointer (some ⟨g,0,none⟩)) (hv:tmps.getD u undef=v) (hg:Blk w g ty cs)
  (hu:P.underlying ty=some d) (hd:(match d with | .struct _ | .array _ _=>true | _=>false)=true) (hi:(P.info? ty).map (·.size)=some cs.size) :
  (results fn tmps).run P w=.ok (.tuple #[.agg cs,v]) w:=by
 rw [results_cell_tmp h,hp,hv]
 simp [asAddr,Result.andThen,run_loadVar_row w g ty ty cs (0,0) d hg hu hd hi]
theorem results_cell3 {fn:Func} {p u x:Tmp} {ty:TypeId} (h:fn.results=#[.cell p ty,.tmp u,.tmp x]) (tmps:Array Value) (w:World) (g:Nat) (cs:Array Value) (d:TypeDesc) (v y:Value)
  (hp:tmps.getD p undef=.pointer (some ⟨g,0,none⟩)) (hv:tmps.getD u undef=v) (hy:tmps.getD x undef=y) (hg:Blk w g ty cs)
  (hu:P.underlying ty=some d) (hd:(match d with | .struct _ | .array _ _=>true | _=>false)=true) (hi:(P.info? ty).map (·.size)=some cs.size) :
  (results fn tmps).run P w=.ok (.tuple #[.agg cs,v,y]) w:=by
 have hp':tmps[p]?.getD undef=.pointer (some ⟨g,0,none⟩):=by simpa using hp
 have hv':tmps[u]?.getD undef=v:=by simpa using hv
 have hy':tmps[x]?.getD undef=y:=by simpa using hy
 simp [results,h,hp',hv',hy',asAddr,run_loadVar_row w g ty ty cs (0,0) d hg hu hd hi]
end
theorem set4 {g t:Nat} {a0 b0 c0 d0:Value} (h:Blk w g t #[a0,b0,c0,d0]) (a b c d:Value) :
  Blk ((((w.setCell ⟨g,0,none⟩ a).setCell ⟨g,1,none⟩ b).setCell ⟨g,2,none⟩ c).setCell ⟨g,3,none⟩ d) g t #[a,b,c,d]:=(((h.set_ 0 a).set_ 1 b).set_ 2 c).set_ 3 d
theorem bel4 {w0:World} {B g:Nat} (h:Below B w0 w) (hg:B≤g) (a b c d:Value):Below B w0 ((((w.setCell ⟨g,0,none⟩ a).setCell ⟨g,1,none⟩ b).setCell ⟨g,2,none⟩ c).setCell ⟨g,3,none⟩ d):=
 (((h.setCell (p:=⟨g,0,none⟩) hg a).setCell (p:=⟨g,1,none⟩) hg b).setCell (p:=⟨g,2,none⟩) hg c).setCell (p:=⟨g,3,none⟩) hg d
theorem cells4 {g t:Nat} {a b c d:Value} (h:Blk w g t #[a,b,c,d]) :
  (w.cell? ⟨g,0,none⟩=some a∧w.cell? ⟨g,1,none⟩=some b∧w.cell? ⟨g,2,none⟩=some c∧w.cell? ⟨g,3,none⟩=some d) ∧
  w.frozen? ⟨g,0,none⟩=false∧w.frozen? ⟨g,1,none⟩=false∧w.frozen? ⟨g,2,none⟩=false∧w.frozen? ⟨g,3,none⟩=false:=
 ⟨⟨h.cell 0,h.cell 1,h.cell 2,h.cell 3⟩,h.frozen 0,h.frozen 1,h.frozen 2,h.frozen 3⟩
theorem stands_b {bs:List UInt8} {A:Option Addr} {cap:Nat} (hP:PV bs A cap w) {k c:Nat} {b:Bool} (h0:0<c) (h:decide (g bs k=c)=b) :
  Calls Tryz.prog 64 #[.slice A bs.length cap,.int .i64 (k:Int),.int .u8 (c:Int)] w fun e w'=>e=.returned (.bool b)∧w'=w:=by
 have:=stands_any bs A cap w hP (k:Int) c h0
 rwa [gz_nat,h] at this
end
section
open Go.RowKit Mem
open Sy (g)
variable {bs:List UInt8} {i:Int}
theorem mode_any (bs:List UInt8) (A:Option Addr) (cap k:Nat) (w:World) (hP:PV bs A cap w) :
  Calls Tryz.prog 51 #[.slice A bs.length cap,.int .i64 (k:Int)] w fun e w'=>e=.returned (.int .i64 (modeP bs k:Int))∧w'=w:=by
 have H1:=hide (fun b h=>stands_b hP (k:=k) (c:=63) (b:=b) (by omega) h)
 have H2:=hide (fun b h=>stands_b hP (k:=k) (c:=43) (b:=b) (by omega) h)
 clear hP
 unfold modeP
 by_cases h1:g bs k=63
 ·have C1:=H1.1 true (by simp [h1])
  rw [if_pos h1]
  clear H1 H2 h1
  go_enter Tryz.func51,Tryz.ntmps51
  go_wp2_with fail
  refine C1.mono ?_
  rintro e w1 ⟨rfl,rfl⟩
  go_wp2
  go_ret
  exact ⟨rfl,rfl⟩
 ·have C1:=H1.1 false (by simp [h1])
  rw [if_neg h1]
  by_cases h2:g bs k=43
  ·have C2:=H2.1 true (by simp [h2])
   rw [if_pos h2]
   clear H1 H2 h1 h2
   go_enter Tryz.func51,Tryz.ntmps51
   go_wp2_with fail
   refine C1.mono ?_
   rintro e w1 ⟨rfl,rfl⟩
   go_wp2_with fail
   refine C2.mono ?_
   rintro e w1 ⟨rfl,rfl⟩
   go_wp2
   go_ret
   exact ⟨rfl,rfl⟩
  ·have C2:=H2.1 false (by simp [h2])
   rw [if_neg h2]
   clear H1 H2 h1 h2
   go_enter Tryz.func51,Tryz.ntmps51
   go_wp2_with fail
   refine C1.mono ?_
   rintro e w1 ⟨rfl,rfl⟩
   go_wp2_with fail
   refine C2.mono ?_
   rintro e w1 ⟨rfl,rfl⟩
   go_wp2
   go_ret
   exact ⟨rfl,rfl⟩
theorem counted_any (lo:Nat) (hi m t:Int) (w:World) (hlo:lo≤1001) (h1:-1≤hi) (h2:hi≤1001) :
  Calls Tryz.prog 50 #[.agg #[.int .i64 (lo:Int),.int .i64 hi,.int .i64 m,.int .i64 t]] w fun e w'=>e=.returned (.bool (okC lo hi))∧Below w.heap.size w w':=by
 obtain ⟨⟨d0,d1,d2,d3⟩,f0,f1,f2,f3⟩:=cells4 (Blk.new w 91 #[.int .i64 (lo:Int),.int .i64 hi,.int .i64 m,.int .i64 t])
 have HB:=hide ((Below.refl w.heap.size w).alloc (Nat.le_refl _) (.cells #[.int .i64 (lo:Int),.int .i64 hi,.int .i64 m,.int .i64 t] 91))
 by_cases k0:1000<lo
 ·have HE:=hide (show false=okC lo hi by unfold okC;simp;omega)
  have k0':(1000:Int)<(lo:Int):=by omega
  clear k0
  go_enter Tryz.func50,Tryz.ntmps50
  go_wp2
  go_ret
  exact ⟨ret_b HE.1,HB.1⟩
 ·have k0':(lo:Int)≤1000:=by omega
  clear k0
  by_cases k1:hi=-1
  ·have HE:=hide (show true=okC lo hi by unfold okC;simp;omega)
   have e1:(hi==-1)=true:=by simpa using k1
   clear k1
   go_enter Tryz.func50,Tryz.ntmps50
   go_wp2
   go_ret
   exact ⟨ret_b HE.1,HB.1⟩
  ·have e1:(hi==-1)=false:=by simpa using k1
   by_cases k2:max 1 (lo:Int)≤hi
   ·have HE:=hide (show decide (hi≤1000)=okC lo hi by unfold okC;rw [Bool.eq_iff_iff];simp;omega)
    obtain ⟨z,hz⟩:∃ z:Int,max 1 (lo:Int)=z:=⟨_,rfl⟩
    rw [hz] at k2
    have HZ:=hide hz
    clear k1
    go_enter Tryz.func50,Tryz.ntmps50
    go_wp2
    go_ret
    exact ⟨ret_b HE.1,HB.1⟩
   ·have HE:=hide (show false=okC lo hi by unfold okC;simp;omega)
    obtain ⟨z,hz⟩:∃ z:Int,max 1 (lo:Int)=z:=⟨_,rfl⟩
    rw [hz] at k2
    have k3:hi<z:=by omega
    have HZ:=hide hz
    clear k1 k2
    go_enter Tryz.func50,Tryz.ntmps50
    go_wp2
    go_ret
    exact ⟨ret_b HE.1,HB.1⟩
def qv (o:Option (Nat×Int×Nat)):Value:=match o with
 | none=>.tuple #[.agg #[.int .i64 0,.int .i64 0,.int .i64 0,.int .i64 0],.bool false]
 | some (lo,hi,to)=>.tuple #[.agg #[.int .i64 (lo:Int),.int .i64 hi,.int .i64 0,.int .i64 (to:Int)],.bool true]
def GivesQ (o:Option (Nat×Int×Nat)) (w:World) (e:Ending) (w':World):Prop:=e=.returned (qv o)∧Below w.heap.size w w'
theorem build_q0 (w:World):Sem.run Tryz.prog (Instr.build 91 #[]) w=.ok (.agg #[.int .i64 0,.int .i64 0,.int .i64 0,.int .i64 0]) w:=run_build w 91 _ _ (by kernel_rfl)
theorem build_q (a b c:Int) (w:World):Sem.run Tryz.prog (Instr.build 91 #[(0,.int .i64 a),(1,.int .i64 b),(3,.int .i64 c)]) w=.ok (.agg #[.int .i64 a,.int .i64 b,.int .i64 0,.int .i64 c]) w:=run_build w 91 _ _ (by kernel_rfl)
attribute [local go_sem] build_q0 build_q Rs.run_not_true Rs.run_not_false
theorem braces_any (bs:List UInt8) (A:Option Addr) (cap k:Nat) (w:World) (hP:PV bs A cap w) (hk:k≤bs.length) :
  Calls Tryz.prog 63 #[.slice A bs.length cap,.int .i64 (k:Int)] w (GivesQ (bracesP bs k) w):=by
 have hb0:Below w.heap.size w (w.alloc (.cells #[.int .i64 0,.int .i64 0,.int .i64 0,.int .i64 0] 91)):=(Below.refl w.heap.size w).alloc (Nat.le_refl _) _
 have HPW:=hide (hP.below hb0)
 have hroom:=hP.room
 have htop:=hP.top
 have HB0:=hide hb0
 have HK:=hide (Blk.new w 91 #[.int .i64 0,.int .i64 0,.int .i64 0,.int .i64 0])
 obtain ⟨⟨d0,d1,d2,d3⟩,f0,f1,f2,f3⟩:=cells4 HK.1
 clear hb0 hP
 have CD:=hide (decimal_any bs A cap k (w.alloc (.cells #[.int .i64 0,.int .i64 0,.int .i64 0,.int .i64 0] 91)) HPW.1 hk)
 obtain ⟨n,hn⟩:∃ n,(decF bs k 0).1=n:=⟨_,rfl⟩
 obtain ⟨m,hm⟩:∃ m,(decF bs k 0).2=m:=⟨_,rfl⟩
 have hge:=decF_ge bs k 0
 rw [hn,hm] at CD hge
 have HQ:=hide (show bracesP bs k=if m=k then none else if g bs (mostP bs n m).2=125 then some (n,(mostP bs n m).1,(mostP bs n m).2+1) else none by unfold bracesP;rw [hn,hm])
 have hmi:(m:Int)≤(bs.length:Int):=by omega
 have hni:(n:Int)≤1001:=by omega
 clear hn hm
 by_cases h0:m=k
 ·subst h0
  have HQ':=hide (show bracesP bs m=none by rw [HQ.1,if_pos rfl])
  have e0:((m:Int)==(m:Int))=true:=by simp
  clear HQ hge
  go_enter Tryz.func63,Tryz.ntmps63
  go_wp2_with fail
  refine CD.1.mono ?_
  rintro e w1 ⟨rfl,rfl⟩
  go_wp2_with fail
  (try simp only [Exit.inBlock,Exit.then])
  exact bodyPost_ret (results_cell2 rfl _ _ w.heap.size _ _ _ rfl rfl (Blk.new _ _ _) Tryz.underlying91 rfl (by kernel_rfl)) rfl ⟨by rw [HQ'.1];rfl,(Below.refl _ _).alloc (Nat.le_refl _) _⟩
 ·have e0:((m:Int)==(k:Int))=false:=by simp;omega
  have HQ1:=hide (HQ.1.trans (if_neg h0))
  clear HQ h0
  by_cases h1:g bs m=44
  ·have hml:=g_in (bs:=bs) (k:=m) (by omega)
   have C1:=hide (stands_b HPW.1 (k:=m) (c:=44) (b:=true) (by omega) (by simp [h1]))
   have CD2:=hide (decimal_any bs A cap (m+1) (w.alloc (.cells #[.int .i64 0,.int .i64 0,.int .i64 0,.int .i64 0] 91)) HPW.1 hml)
   obtain ⟨n2,hn⟩:∃ n,(decF bs (m+1) 0).1=n:=⟨_,rfl⟩
   obtain ⟨m2,hm⟩:∃ q,(decF bs (m+1) 0).2=q:=⟨_,rfl⟩
   have hge2:=decF_ge bs (m+1) 0
   have HM:=hide (show mostP bs n m=((if m2=m+1 then -1 else (n2:Int)),m2) by unfold mostP;rw [if_pos h1,hn,hm])
   rw [hn,hm] at CD2 hge2
   rw [HM.1] at HQ1
   have hm2i:(m2:Int)≤(bs.length:Int):=by omega
   have hp1:(m:Int)+1≤(bs.length:Int):=by omega
   rw [Int.natCast_add] at CD2
   clear hn hm h1 hge
   by_cases h2:m2=m+1
   ·rw [if_pos h2] at HQ1
    have e2:((m2:Int)==(m:Int)+1)=true:=by simp;omega
    clear h2
    by_cases h3:g bs m2=125
    ·have HQ2:=hide (HQ1.1.trans (if_pos h3))
     have C3:=hide (stands_b HPW.1 (k:=m2) (c:=125) (b:=true) (by omega) (by simp [h3]))
     have hm3:=g_in (bs:=bs) (k:=m2) (by omega)
     have hm3i:(m2:Int)+1≤(bs.length:Int):=by omega
     clear h3 hm3 hge2 HQ1
     go_enter Tryz.func63,Tryz.ntmps63
     go_wp2_with fail
     refine CD.1.mono ?_
     rintro e w1 ⟨rfl,rfl⟩
     go_wp2_with fail
     refine C1.1.mono ?_
     rintro e w1 ⟨rfl,rfl⟩
     go_wp2_with fail
     refine CD2.1.mono ?_
     rintro e w1 ⟨rfl,rfl⟩
     go_wp2_with fail
     refine C3.1.mono ?_
     rintro e w1 ⟨rfl,rfl⟩
     go_wp2_with fail
     (try simp only [Exit.inBlock,Exit.then])
     exact bodyPost_ret (results_cell2 rfl _ _ w.heap.size _ _ _ rfl rfl (Blk.new _ _ _) Tryz.underlying91 rfl (by kernel_rfl)) rfl ⟨by rw [HQ2.1];rfl,(Below.refl _ _).alloc (Nat.le_refl _) _⟩
    ·have HQ2:=hide (HQ1.1.trans (if_neg h3))
     have C3:=hide (stands_b HPW.1 (k:=m2) (c:=125) (b:=false) (by omega) (by simp [h3]))
     clear h3 hge2 HQ1
     go_enter Tryz.func63,Tryz.ntmps63
     go_wp2_with fail
     refine CD.1.mono ?_
     rintro e w1 ⟨rfl,rfl⟩
     go_wp2_with fail
     refine C1.1.mono ?_
     rintro e w1 ⟨rfl,rfl⟩
     go_wp2_with fail
     refine CD2.1.mono ?_
     rintro e w1 ⟨rfl,rfl⟩
     go_wp2_with fail
     refine C3.1.mono ?_
     rintro e w1 ⟨rfl,rfl⟩
     go_wp2_with fail
     (try simp only [Exit.inBlock,Exit.then])
     exact bodyPost_ret (results_cell2 rfl _ _ w.heap.size _ _ _ rfl rfl (Blk.new _ _ _) Tryz.underlying91 rfl (by kernel_rfl)) rfl ⟨by rw [HQ2.1];rfl,(Below.refl _ _).alloc (Nat.le_refl _) _⟩
   ·rw [if_neg h2] at HQ1
    have e2:((m2:Int)==(m:Int)+1)=false:=by simp;omega
    clear h2
    by_cases h3:g bs m2=125
    ·have HQ2:=hide (HQ1.1.trans (if_pos h3))
     have C3:=hide (stands_b HPW.1 (k:=m2) (c:=125) (b:=true) (by omega) (by simp [h3]))
     have hm3:=g_in (bs:=bs) (k:=m2) (by omega)
     have hm3i:(m2:Int)+1≤(bs.length:Int):=by omega
     clear h3 hm3 hge2 HQ1
     go_enter Tryz.func63,Tryz.ntmps63
     go_wp2_with fail
     refine CD.1.mono ?_
     rintro e w1 ⟨rfl,rfl⟩
     go_wp2_with fail
     refine C1.1.mono ?_
     rintro e w1 ⟨rfl,rfl⟩
     go_wp2_with fail
     refine CD2.1.mono ?_
     rintro e w1 ⟨rfl,rfl⟩
     go_wp2_with fail
     refine C3.1.mono ?_
     rintro e w1 ⟨rfl,rfl⟩
     go_wp2_with fail
     (try simp only [Exit.inBlock,Exit.then])
     exact bodyPost_ret (results_cell2 rfl _ _ w.heap.size _ _ _ rfl rfl (Blk.new _ _ _) Tryz.underlying91 rfl (by kernel_rfl)) rfl ⟨by rw [HQ2.1];rfl,(Below.refl _ _).alloc (Nat.le_refl _) _⟩
    ·have HQ2:=hide (HQ1.1.trans (if_neg h3))
     have C3:=hide (stands_b HPW.1 (k:=m2) (c:=125) (b:=false) (by omega) (by simp [h3]))
     clear h3 hge2 HQ1
     go_enter Tryz.func63,Tryz.ntmps63
     go_wp2_with fail
     refine CD.1.mono ?_
     rintro e w1 ⟨rfl,rfl⟩
     go_wp2_with fail
     refine C1.1.mono ?_
     rintro e w1 ⟨rfl,rfl⟩
     go_wp2_with fail
     refine CD2.1.mono ?_
     rintro e w1 ⟨rfl,rfl⟩
     go_wp2_with fail
     refine C3.1.mono ?_
     rintro e w1 ⟨rfl,rfl⟩
     go_wp2_with fail
     (try simp only [Exit.inBlock,Exit.then])
     exact bodyPost_ret (results_cell2 rfl _ _ w.heap.size _ _ _ rfl rfl (Blk.new _ _ _) Tryz.underlying91 rfl (by kernel_rfl)) rfl ⟨by rw [HQ2.1];rfl,(Below.refl _ _).alloc (Nat.le_refl _) _⟩
  ·have C1:=hide (stands_b HPW.1 (k:=m) (c:=44) (b:=false) (by omega) (by simp [h1]))
   have HM:=hide (show mostP bs n m=((n:Int),m) by unfold mostP;rw [if_neg h1])
   rw [HM.1] at HQ1
   clear h1
   by_cases h3:g bs m=125
   ·have HQ2:=hide (HQ1.1.trans (if_pos h3))
    have C3:=hide (stands_b HPW.1 (k:=m) (c:=125) (b:=true) (by omega) (by simp [h3]))
    have hm3:=g_in (bs:=bs) (k:=m) (by omega)
    have hm3i:(m:Int)+1≤(bs.length:Int):=by omega
    clear h3 hm3 hge HQ1
    go_enter Tryz.func63,Tryz.ntmps63
    go_wp2_with fail
    refine CD.1.mono ?_
    rintro e w1 ⟨rfl,rfl⟩
    go_wp2_with fail
    refine C1.1.mono ?_
    rintro e w1 ⟨rfl,rfl⟩
    go_wp2_with fail
    refine C3.1.mono ?_
    rintro e w1 ⟨rfl,rfl⟩
    go_wp2_with fail
    (try simp only [Exit.inBlock,Exit.then])
    exact bodyPost_ret (results_cell2 rfl _ _ w.heap.size _ _ _ rfl rfl (Blk.new _ _ _) Tryz.underlying91 rfl (by kernel_rfl)) rfl ⟨by rw [HQ2.1];rfl,(Below.refl _ _).alloc (Nat.le_refl _) _⟩
   ·have HQ2:=hide (HQ1.1.trans (if_neg h3))
    have C3:=hide (stands_b HPW.1 (k:=m) (c:=125) (b:=false) (by omega) (by simp [h3]))
    clear h3 hge HQ1
    go_enter Tryz.func63,Tryz.ntmps63
    go_wp2_with fail
    refine CD.1.mono ?_
    rintro e w1 ⟨rfl,rfl⟩
    go_wp2_with fail
    refine C1.1.mono ?_
    rintro e w1 ⟨rfl,rfl⟩
    go_wp2_with fail
    refine C3.1.mono ?_
    rintro e w1 ⟨rfl,rfl⟩
    go_wp2_with fail
    (try simp only [Exit.inBlock,Exit.then])
    exact bodyPost_ret (results_cell2 rfl _ _ w.heap.size _ _ _ rfl rfl (Blk.new _ _ _) Tryz.underlying91 rfl (by kernel_rfl)) rfl ⟨by rw [HQ2.1];rfl,(Below.refl _ _).alloc (Nat.le_refl _) _⟩
theorem braces_bound {k lo to:Nat} {hi:Int} (h:bracesP bs k=some (lo,hi,to)):lo≤1001∧-1≤hi∧hi≤1001∧to≤bs.length∧k<to:=by
 unfold bracesP at h
 have h1:=decF_ge bs k 0
 generalize (decF bs k 0).1=n at *
 generalize (decF bs k 0).2=m at *
 split at h
 ·cases h
 ·split at h
  ·rename_i hk h2
   have h3:=g_in (bs:=bs) (k:=(mostP bs n m).2) (by omega)
   obtain ⟨rfl,rfl,rfl⟩:n=lo∧(mostP bs n m).1=hi∧(mostP bs n m).2+1=to:=by simpa using h
   have h4:-1≤(mostP bs n m).1∧(mostP bs n m).1≤1001∧m≤(mostP bs n m).2:=by
    unfold mostP
    have h5:=decF_ge bs (m+1) 0
    split
    ·simp only []
     split<;>omega
    ·simp only [];omega
   omega
  ·cases h
theorem counts_bound {k lo to:Nat} {hi:Int} (h:countsP bs k=some (lo,hi,to)):lo≤1001∧-1≤hi∧hi≤1001∧to≤bs.length∧k<to:=by
 unfold countsP at h
 have hin:g bs k≠0→k<bs.length:=g_in
 split at h
 ·obtain ⟨rfl,rfl,rfl⟩:=by simpa using h
  omega
 ·split at h
  ·obtain ⟨rfl,rfl,rfl⟩:=by simpa using h
   omega
  ·split at h
   ·obtain ⟨rfl,rfl,rfl⟩:=by simpa using h
    omega
   ·split at h
    ·have:=braces_bound h
     omega
    ·cases h
def countsz (bs:List UInt8) (i:Int):Option (Nat×Int×Nat):=if 0≤i then countsP bs i.toNat else none
theorem symz_sign {c:Nat} (hc:c<128) (h0:0<c) (h:(symz bs i).1=c):∃ k:Nat,i=(k:Int)∧k<bs.length∧g bs k=c∧(symz bs i).2=1:=by
 by_cases hi:0≤i
 ·obtain ⟨k,rfl⟩:∃ k:Nat,i=(k:Int):=⟨i.toNat,by omega⟩
  rw [symz_nat] at h ⊢
  have hg:=(sym_fst hc h0).1 h
  exact ⟨k,rfl,g_in (by omega),hg,sym_snd_one (by omega) (by omega)⟩
 ·unfold symz at h
  rw [if_neg hi] at h
  simp only [] at h
  omega
theorem symz_not {c:Nat} (hc:c<128) (h0:0<c) (h:¬ (symz bs i).1=c):gz bs i≠c:=by
 by_cases hi:0≤i
 ·obtain ⟨k,rfl⟩:∃ k:Nat,i=(k:Int):=⟨i.toNat,by omega⟩
  rw [symz_nat] at h
  rw [gz_nat]
  exact fun e=>h ((sym_fst hc h0).2 e)
 ·rw [gz_out (.inl (by omega))]
  omega
theorem countsz_none (h1:gz bs i≠42) (h2:gz bs i≠43) (h3:gz bs i≠63) (h4:gz bs i≠123):countsz bs i=none:=by
 unfold countsz
 by_cases hi:0≤i
 ·obtain ⟨k,rfl⟩:∃ k:Nat,i=(k:Int):=⟨i.toNat,by omega⟩
  rw [gz_nat] at h1 h2 h3 h4
  rw [if_pos hi,Int.toNat_natCast,countsP,if_neg h1,if_neg h2,if_neg h3,if_neg h4]
 ·rw [if_neg hi]
end
section
open Go.RowKit Mem
attribute [local go_sem] build_q0 build_q Rs.run_not_true Rs.run_not_false
theorem ne_cast {x c:Nat} (h:¬ x=c):((x:Int)==(c:Int))=false:=by
 rw [beq_eq_false_iff_ne];omega
theorem counts_any (bs:List UInt8) (A:Option Addr) (cap:Nat) (i:Int) (w:World) (hP:PV bs A cap w) (hT:Utf.Tabs w) :
  Calls Tryz.prog 49 #[.slice A bs.length cap,.int .i64 i] w (GivesQ (countsz bs i) w):=by
 have hb0:Below w.heap.size w (w.alloc (.cells #[.int .i64 0,.int .i64 0,.int .i64 0,.int .i64 0] 91)):=(Below.refl w.heap.size w).alloc (Nat.le_refl _) _
 have CA:=hide (at_any bs A cap i _ (hP.below hb0) (hT.below hb0 (Nat.le_refl _)))
 have HP:=hide (hP.below hb0)
 have hroom:=hP.room
 have htop:=hP.top
 have HB0:=hide hb0
 have HK:=hide (Blk.new w 91 #[.int .i64 0,.int .i64 0,.int .i64 0,.int .i64 0])
 clear hb0 hP hT
 have HN:=hide (fun c (hc:c<128) (h0:0<c) (h:¬ (symz bs i).1=c)=>symz_not hc h0 h)
 have HY:=hide (fun c (hc:c<128) (h0:0<c) (h:(symz bs i).1=c)=>symz_sign hc h0 h)
 obtain ⟨x,hx⟩:∃ x,(symz bs i).1=x:=⟨_,rfl⟩
 obtain ⟨s,hs⟩:∃ s,(symz bs i).2=s:=⟨_,rfl⟩
 rw [hx,hs] at CA
 simp only [hx,hs] at HN HY
 clear hx hs
 generalize hw0:w.alloc (.cells #[.int .i64 0,.int .i64 0,.int .i64 0,.int .i64 0] 91)=W0 at *
 by_cases h1:x=42
 ·obtain ⟨k,rfl,hk,hg,rfl⟩:=HY.1 42 (by omega) (by omega) h1
  subst h1
  have HQ:=hide (show countsz bs (k:Int)=some (0,-1,k+1) by unfold countsz;rw [if_pos (by omega),Int.toNat_natCast,countsP,if_pos hg])
  have hki:(k:Int)<(bs.length:Int):=by omega
  clear HN HY hg
  go_enter Tryz.func49,Tryz.ntmps49
  go_wp2_with fail
  refine CA.1.mono ?_
  rintro e w1 ⟨rfl,hB⟩
  have HB1:=hide (HB0.1.trans (hB.mono HB0.1.size))
  have HK1:=hide (HK.1.below hB HK.1.lt)
  have hsz:=HK.1.lt
  clear hB CA HP HB0 HK
  obtain ⟨⟨d0,d1,d2,d3⟩,f0,f1,f2,f3⟩:=cells4 HK1.1
  go_wp2_with fail
  (try simp only [Exit.inBlock,Exit.then])
  exact bodyPost_ret (results_cell2 rfl _ _ w.heap.size _ _ _ rfl rfl (set4 HK1.1 _ _ _ _) Tryz.underlying91 rfl (by kernel_rfl)) rfl ⟨by rw [HQ.1];rfl,bel4 HB1.1 (Nat.le_refl _) _ _ _ _⟩
 by_cases h2:x=43
 ·obtain ⟨k,rfl,hk,hg,rfl⟩:=HY.1 43 (by omega) (by omega) h2
  subst h2
  have HQ:=hide (show countsz bs (k:Int)=some (1,-1,k+1) by unfold countsz;rw [if_pos (by omega),Int.toNat_natCast,countsP,if_neg (by omega),if_pos hg])
  have hki:(k:Int)<(bs.length:Int):=by omega
  clear HN HY hg
  go_enter Tryz.func49,Tryz.ntmps49
  go_wp2_with fail
  refine CA.1.mono ?_
  rintro e w1 ⟨rfl,hB⟩
  have HB1:=hide (HB0.1.trans (hB.mono HB0.1.size))
  have HK1:=hide (HK.1.below hB HK.1.lt)
  have hsz:=HK.1.lt
  clear hB CA HP HB0 HK
  obtain ⟨⟨d0,d1,d2,d3⟩,f0,f1,f2,f3⟩:=cells4 HK1.1
  go_wp2_with fail
  (try simp only [Exit.inBlock,Exit.then])
  exact bodyPost_ret (results_cell2 rfl _ _ w.heap.size _ _ _ rfl rfl (set4 HK1.1 _ _ _ _) Tryz.underlying91 rfl (by kernel_rfl)) rfl ⟨by rw [HQ.1];rfl,bel4 HB1.1 (Nat.le_refl _) _ _ _ _⟩
 by_cases h3:x=63
 ·obtain ⟨k,rfl,hk,hg,rfl⟩:=HY.1 63 (by omega) (by omega) h3
  subst h3
  have HQ:=hide (show countsz bs (k:Int)=some (0,1,k+1) by unfold countsz;rw [if_pos (by omega),Int.toNat_natCast,countsP,if_neg (by omega),if_neg (by omega),if_pos hg])
  have hki:(k:Int)<(bs.length:Int):=by omega
  clear HN HY hg
  go_enter Tryz.func49,Tryz.ntmps49
  go_wp2_with fail
  refine CA.1.mono ?_
  rintro e w1 ⟨rfl,hB⟩
  have HB1:=hide (HB0.1.trans (hB.mono HB0.1.size))
  have HK1:=hide (HK.1.below hB HK.1.lt)
  have hsz:=HK.1.lt
  clear hB CA HP HB0 HK
  obtain ⟨⟨d0,d1,d2,d3⟩,f0,f1,f2,f3⟩:=cells4 HK1.1
  go_wp2_with fail
  (try simp only [Exit.inBlock,Exit.then])
  exact bodyPost_ret (results_cell2 rfl _ _ w.heap.size _ _ _ rfl rfl (set4 HK1.1 _ _ _ _) Tryz.underlying91 rfl (by kernel_rfl)) rfl ⟨by rw [HQ.1];rfl,bel4 HB1.1 (Nat.le_refl _) _ _ _ _⟩
 by_cases h4:x=123
 ·obtain ⟨k,rfl,hk,hg,rfl⟩:=HY.1 123 (by omega) (by omega) h4
  subst h4
  have HQ:=hide (show countsz bs (k:Int)=bracesP bs (k+1) by unfold countsz;rw [if_pos (by omega),Int.toNat_natCast,countsP,if_neg (by omega),if_neg (by omega),if_neg (by omega),if_pos hg])
  have hki:(k:Int)<(bs.length:Int):=by omega
  clear HN HY hg
  go_enter Tryz.func49,Tryz.ntmps49
  go_wp2_with fail
  refine CA.1.mono ?_
  rintro e w1 ⟨rfl,hB⟩
  have CB:=hide (braces_any bs A cap (k+1) w1 (HP.1.below hB) hk)
  have HB1:=hide (HB0.1.trans (hB.mono HB0.1.size))
  have HK1:=hide (HK.1.below hB HK.1.lt)
  have hsz:=HK.1.lt
  clear hB CA HP HB0 HK
  rw [Int.natCast_add] at CB
  go_wp2_with fail
  refine CB.1.mono ?_
  rintro e w2 ⟨rfl,hB⟩
  have hsz2:=HB1.1.size
  have HB2:=hide (HB1.1.trans (hB.mono HB1.1.size))
  have HK2:=hide (HK1.1.below hB HK1.1.lt)
  clear hB HB1 HK1 CB
  obtain ⟨⟨d0,d1,d2,d3⟩,f0,f1,f2,f3⟩:=cells4 HK2.1
  cases hb:bracesP bs (k+1) with
  | none=>
   rw [hb] at HQ
   unfold qv
   go_wp2_with fail
   (try simp only [Exit.inBlock,Exit.then])
   exact bodyPost_ret (results_cell2 rfl _ _ w.heap.size _ _ _ rfl rfl (set4 HK2.1 _ _ _ _) Tryz.underlying91 rfl (by kernel_rfl)) rfl ⟨by rw [HQ.1];rfl,bel4 HB2.1 (Nat.le_refl _) _ _ _ _⟩
  | some q=>
   obtain ⟨lo,hi,to⟩:=q
   rw [hb] at HQ
   unfold qv
   go_wp2_with fail
   (try simp only [Exit.inBlock,Exit.then])
   exact bodyPost_ret (results_cell2 rfl _ _ w.heap.size _ _ _ rfl rfl (set4 HK2.1 _ _ _ _) Tryz.underlying91 rfl (by kernel_rfl)) rfl ⟨by rw [HQ.1];rfl,bel4 HB2.1 (Nat.le_refl _) _ _ _ _⟩
 have HQ:=hide (countsz_none (HN.1 42 (by omega) (by omega) h1) (HN.1 43 (by omega) (by omega) h2) (HN.1 63 (by omega) (by omega) h3) (HN.1 123 (by omega) (by omega) h4))
 have e1:=ne_cast h1
 have e2:=ne_cast h2
 have e3:=ne_cast h3
 have e4:=ne_cast h4
 clear HN HY h1 h2 h3 h4
 go_enter Tryz.func49,Tryz.ntmps49
 go_wp2_with fail
 refine CA.1.mono ?_
 rintro e w1 ⟨rfl,hB⟩
 have HB1:=hide (HB0.1.trans (hB.mono HB0.1.size))
 have HK1:=hide (HK.1.below hB HK.1.lt)
 have hsz:=HK.1.lt
 clear hB CA HP HB0 HK
 obtain ⟨⟨d0,d1,d2,d3⟩,f0,f1,f2,f3⟩:=cells4 HK1.1
 go_wp2_with fail
 (try simp only [Exit.inBlock,Exit.then])
 exact bodyPost_ret (results_cell2 rfl _ _ w.heap.size _ _ _ rfl rfl (set4 HK1.1 _ _ _ _) Tryz.underlying91 rfl (by kernel_rfl)) rfl ⟨by rw [HQ.1];rfl,bel4 HB1.1 (Nat.le_refl _) _ _ _ _⟩
end
section
open Go.RowKit Mem
open Sy (g)
attribute [local go_sem] build_q0 build_q Rs.run_not_true Rs.run_not_false
def GivesC (c:Ct) (w:World) (e:Ending) (w':World):Prop:=e=.returned (.tuple #[.agg #[.int .i64 (c.lo:Int),.int .i64 c.hi,.int .i64 (c.mode:Int),.int .i64 (c.to:Int)],.bool c.is,.int .i64 (c.e:Int)])∧Below w.heap.size w w'
theorem mode_cases (bs:List UInt8) (k:Nat):(modeP bs k=0∨(modeP bs k≠0∧k<bs.length))∧modeP bs k≤2:=by
 unfold modeP
 have hin:g bs k≠0→k<bs.length:=g_in
 split
 ·exact ⟨.inr ⟨by omega,hin (by omega)⟩,by omega⟩
 ·split
  ·exact ⟨.inr ⟨by omega,hin (by omega)⟩,by omega⟩
  ·exact ⟨.inl rfl,by omega⟩
theorem cntz_none {bs:List UInt8} {i:Int} (h:countsz bs i=none):cntz bs i=⟨0,0,0,0,false,0⟩:=by
 unfold countsz at h
 unfold cntz
 split
 ·rename_i h0
  rw [if_pos h0] at h
  unfold cntP;rw [h]
 ·rfl
theorem cntz_some {bs:List UInt8} {i:Int} {lo to:Nat} {hi:Int} (h:countsz bs i=some (lo,hi,to)) :
  cntz bs i=(if okC lo hi then ⟨lo,hi,modeP bs to,to+(if modeP bs to=0 then 0 else 1),true,0⟩ else ⟨0,0,0,0,false,34⟩)∧lo≤1001∧-1≤hi∧hi≤1001∧to≤bs.length:=by
 unfold countsz at h
 unfold cntz
 split at h
 ·rename_i h0
  rw [if_pos h0]
  have hb:=counts_bound h
  exact ⟨by unfold cntP;rw [h],by omega,by omega,by omega,by omega⟩
 ·cases h
theorem pcount_any (bs:List UInt8) (A:Option Addr) (cap:Nat) (i:Int) (w:World) (hP:PV bs A cap w) (hT:Utf.Tabs w) :
  Calls Tryz.prog 43 #[.slice A bs.length cap,.int .i64 i] w (GivesC (cntz bs i) w):=by
 have hb0:Below w.heap.size w (w.alloc (.cells #[.int .i64 0,.int .i64 0,.int .i64 0,.int .i64 0] 91)):=(Below.refl w.heap.size w).alloc (Nat.le_refl _) _
 have CA:=hide (counts_any bs A cap i _ (hP.below hb0) (hT.below hb0 (Nat.le_refl _)))
 have HP:=hide (hP.below hb0)
 have hroom:=hP.room
 have htop:=hP.top
 have HB0:=hide hb0
 have HK:=hide (Blk.new w 91 #[.int .i64 0,.int .i64 0,.int .i64 0,.int .i64 0])
 clear hb0 hP hT
 generalize hw0:w.alloc (.cells #[.int .i64 0,.int .i64 0,.int .i64 0,.int .i64 0] 91)=W0 at *
 have HN:=hide (fun h=>cntz_none (bs:=bs) (i:=i) h)
 have HS:=hide (fun lo hi to h=>cntz_some (bs:=bs) (i:=i) (lo:=lo) (hi:=hi) (to:=to) h)
 cases hc:countsz bs i with
 | none=>
  have HQ:=hide (HN.1 hc)
  rw [hc] at CA
  clear hc HN HS
  unfold GivesQ qv at CA
  go_enter Tryz.func43,Tryz.ntmps43
  go_wp2_with fail
  refine CA.1.mono ?_
  rintro e w1 ⟨rfl,hB⟩
  have HB1:=hide (HB0.1.trans (hB.mono HB0.1.size))
  have HK1:=hide (HK.1.below hB HK.1.lt)
  have hsz:=HK.1.lt
  have hb1:=HK1.1.alloc (.cells #[.int .i64 0,.int .i64 0,.int .i64 0,.int .i64 0] 91)
  obtain ⟨⟨d0,d1,d2,d3⟩,f0,f1,f2,f3⟩:=cells4 hb1
  have HB2:=hide (HB1.1.alloc HB1.1.size (.cells #[.int .i64 0,.int .i64 0,.int .i64 0,.int .i64 0] 91))
  have HK2:=hide hb1
  clear hB CA HP HB0 HK hb1
  go_wp2_with fail
  (try simp only [Exit.inBlock,Exit.then])
  exact bodyPost_ret (results_cell3 rfl _ _ w.heap.size _ _ _ _ rfl rfl rfl (by first|exact HK2.1|exact set4 HK2.1 _ _ _ _) Tryz.underlying91 rfl (by kernel_rfl)) rfl ⟨by rw [HQ.1];rfl,by first|exact HB2.1|exact bel4 HB2.1 (Nat.le_refl _) _ _ _ _⟩
 | some q=>
  obtain ⟨lo,hi,to⟩:=q
  have hs:=HS.1 lo hi to hc
  rw [hc] at CA
  clear hc HN HS
  unfold GivesQ qv at CA
  have CO:=hide (fun W=>counted_any lo hi 0 (to:Int) W hs.2.1 hs.2.2.1 hs.2.2.2.1)
  have hto:(to:Int)≤(bs.length:Int):=by have:=hs.2.2.2.2;omega
  have HQ:=hide hs.1
  clear hs
  have hmc:=mode_cases bs to
  cases ho:okC lo hi with
  | false=>
   rw [ho] at HQ CO
   clear ho hmc
   go_enter Tryz.func43,Tryz.ntmps43
   go_wp2_with fail
   refine CA.1.mono ?_
   rintro e w1 ⟨rfl,hB⟩
   have HB1:=hide (HB0.1.trans (hB.mono HB0.1.size))
   have HK1:=hide (HK.1.below hB HK.1.lt)
   have hsz:=HK.1.lt
   clear hB CA HP HB0 HK
   go_wp2_with fail
   refine (CO.1 _).mono ?_
   rintro e w2 ⟨rfl,hB⟩
   have HB2:=hide ((HB1.1.alloc HB1.1.size (.cells #[.int .i64 (lo:Int),.int .i64 hi,.int .i64 0,.int .i64 (to:Int)] 91)).trans (hB.mono (by have:=HB1.1.size;simp;omega)))
   have HK2:=hide ((HK1.1.alloc (.cells #[.int .i64 (lo:Int),.int .i64 hi,.int .i64 0,.int .i64 (to:Int)] 91)).below hB (by have:=HK1.1.lt;simp;omega))
   obtain ⟨⟨d0,d1,d2,d3⟩,f0,f1,f2,f3⟩:=cells4 HK2.1
   clear hB HB1 HK1 CO
   go_wp2_with fail
   (try simp only [Exit.inBlock,Exit.then])
   exact bodyPost_ret (results_cell3 rfl _ _ w.heap.size _ _ _ _ rfl rfl rfl (by first|exact HK2.1|exact set4 HK2.1 _ _ _ _) Tryz.underlying91 rfl (by kernel_rfl)) rfl ⟨by rw [HQ.1];rfl,by first|exact HB2.1|exact bel4 HB2.1 (Nat.le_refl _) _ _ _ _⟩
  | true=>
   rw [ho] at HQ CO
   rw [if_pos rfl] at HQ
   have CM:=hide (fun W (h:PV bs A cap W)=>mode_any bs A cap to W h)
   obtain ⟨m,hm⟩:∃ m,modeP bs to=m:=⟨_,rfl⟩
   rw [hm] at HQ CM hmc
   clear ho hm
   go_enter Tryz.func43,Tryz.ntmps43
   go_wp2_with fail
   refine CA.1.mono ?_
   rintro e w1 ⟨rfl,hB⟩
   have HB1:=hide (HB0.1.trans (hB.mono HB0.1.size))
   have HK1:=hide (HK.1.below hB HK.1.lt)
   have HP1:=hide (HP.1.below hB)
   have hsz:=HK.1.lt
   clear hB CA HP HB0 HK
   go_wp2_with fail
   refine (CO.1 _).mono ?_
   rintro e w2 ⟨rfl,hB⟩
   have hb3:Below w1.heap.size w1 (w1.alloc (.cells #[.int .i64 (lo:Int),.int .i64 hi,.int .i64 0,.int .i64 (to:Int)] 91)):=(Below.refl _ w1).alloc (Nat.le_refl _) _
   have hne:w.heap.size≠w1.heap.size:=by have:=HK1.1.lt;omega
   have HB2:=hide ((HB1.1.alloc HB1.1.size (.cells #[.int .i64 (lo:Int),.int .i64 hi,.int .i64 0,.int .i64 (to:Int)] 91)).trans (hB.mono (by have:=HB1.1.size;simp;omega)))
   have HK2:=hide ((HK1.1.alloc (.cells #[.int .i64 (lo:Int),.int .i64 hi,.int .i64 0,.int .i64 (to:Int)] 91)).below hB (by have:=HK1.1.lt;simp;omega))
   have hz1:=HB1.1.size
   have HL2:=hide ((Blk.new w1 91 #[.int .i64 (lo:Int),.int .i64 hi,.int .i64 0,.int .i64 (to:Int)]).below hB (by simp))
   have HP2:=hide ((HP1.1.below hb3).below hB)
   clear hB HB1 HK1 CO HP1 hb3
   have CM2:=hide (CM.1 w2 HP2.1)
   clear CM HP2
   obtain ⟨⟨d0,d1,d2,d3⟩,f0,f1,f2,f3⟩:=cells4 HL2.1
   go_wp2_with fail
   refine CM2.1.mono ?_
   rintro e w3 ⟨rfl,rfl⟩
   obtain ⟨⟨d0,d1,d2,d3⟩,f0,f1,f2,f3⟩:=cells4 HL2.1
   have HL3:=hide (HL2.1.set_ 2 (.int .i64 (m:Int)))
   have HK3:=hide (HK2.1.far (p:=⟨w1.heap.size,2,none⟩) hne (.int .i64 (m:Int)))
   have HB3:=hide (HB2.1.setCell (p:=⟨w1.heap.size,2,none⟩) hz1 (.int .i64 (m:Int)))
   obtain ⟨⟨x0,x1,x2,x3⟩,y0,y1,y2,y3⟩:=cells4 HL3.1
   obtain ⟨⟨u0,u1,u2,u3⟩,v0,v1,v2,v3⟩:=cells4 HK3.1
   by_cases h0:m=0
   ·have e0:((m:Int)==0)=true:=by rw [beq_iff_eq];omega
    rw [if_pos h0] at HQ
    clear hmc CM2 h0
    go_wp2_with fail
    (try simp only [Exit.inBlock,Exit.then])
    exact bodyPost_ret (results_cell3 rfl _ _ w.heap.size _ _ _ _ rfl rfl rfl (by first|exact set4 HK3.1 _ _ _ _|exact set4 HK2.1 _ _ _ _) Tryz.underlying91 rfl (by kernel_rfl)) rfl ⟨by rw [HQ.1];rfl,by first|exact bel4 HB3.1 (Nat.le_refl _) _ _ _ _|exact bel4 HB2.1 (Nat.le_refl _) _ _ _ _⟩
   ·have e0:((m:Int)==0)=false:=by rw [beq_eq_false_iff_ne];omega
    have hti:(to:Int)<(bs.length:Int):=by omega
    rw [if_neg h0] at HQ
    have HK4:=hide (HK3.1.far (p:=⟨w1.heap.size,3,none⟩) hne (.int .i64 ((to:Int)+1)))
    have HB4:=hide (HB3.1.setCell (p:=⟨w1.heap.size,3,none⟩) hz1 (.int .i64 ((to:Int)+1)))
    have HL4:=hide (HL3.1.set_ 3 (.int .i64 ((to:Int)+1)))
    obtain ⟨⟨x0,x1,x2,x3⟩,y0,y1,y2,y3⟩:=cells4 HL4.1
    obtain ⟨⟨u0,u1,u2,u3⟩,v0,v1,v2,v3⟩:=cells4 HK4.1
    clear hmc h0 CM2
    go_wp2_with fail
    (try simp only [Exit.inBlock,Exit.then])
    exact bodyPost_ret (results_cell3 rfl _ _ w.heap.size _ _ _ _ rfl rfl rfl (set4 HK4.1 _ _ _ _) Tryz.underlying91 rfl (by kernel_rfl)) rfl ⟨by rw [HQ.1];rfl,bel4 HB4.1 (Nat.le_refl _) _ _ _ _⟩
end
end Go.Proofs.YtmlbklcmblofkaaGreatDoor.Sc
