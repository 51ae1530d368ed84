/-
  string(b) of bytes that read as a list: the string of these bytes.
-/
import Derived.Test.YtmlbklcmblofkaaGreatDoorMSymUtf
import Derived.Laws.IdiomStrings
import Derived.KernelRfl
set_option linter.unusedSimpArgs false
set_option linter.unusedVariables false
set_option maxHeartbeats 1000000
set_option maxRecDepth 1000000
namespace Go.Proofs.YtmlbklcmblofkaaGreatDoor.Utf
open Go.RowKit Go.Lib Sy Mem
theorem first_ne {b:Nat} (hb:¬ b<128):firstT b≠240:=by
 unfold firstT
 rw [if_neg hb]
 repeat' split
 all_goals decide
theorem first_bad {b:Nat} (h:firstT b=241) (hb:¬ b<128):b<194∨244<b:=by
 refine Decidable.byContradiction fun hn=>absurd h ?_
 have h1:194≤b∧b≤244:=by omega
 clear h hn
 unfold firstT
 rw [if_neg hb,if_neg (by omega)]
 repeat' split
 all_goals first|decide|(exfalso;omega)
theorem dec_bad (n a b c d:Nat) (ha:¬ a<128) (h:a<194∨244<a):dec n a b c d=(65533,1):=by
 unfold dec decodeN
 repeat' split
 all_goals first|rfl|(exfalso;omega)
theorem slow_any (n x0 x1 x2 x3 b off cap:Nat) (w:World) (hT:Tabs w) (hn:0<n) (l0:x0<256) (l1:x1<256) (l2:x2<256) (l3:x3<256) (ha:¬ x0<128)
  (hs0:w.cell? ⟨b,off,none⟩=some (.int .u8 (x0:Int))) (hq1:1<n→w.cell? ⟨b,off+1,none⟩=some (.int .u8 (x1:Int)))
  (hq2:2<n→w.cell? ⟨b,off+2,none⟩=some (.int .u8 (x2:Int))) (hq3:3<n→w.cell? ⟨b,off+3,none⟩=some (.int .u8 (x3:Int))) :
  Calls Tryz.prog 91 #[.slice (some ⟨b,off,none⟩) n cap] w (Gives (dec n x0 x1 x2 x3) w):=by
 have hz:¬ ((n:Int)<1):=by omega
 have hz0:(0:Int)<(n:Int):=by omega
 have hb:b<w.heap.size:=cell_lt hs0
 have hc0:=hT.1 x0 l0
 have heq:firstT x0<240→slowN n x0 x1 x2 x3 (firstT x0 % 8) (accLo (firstT x0 / 16)) (accHi (firstT x0 / 16))=dec n x0 x1 x2 x3:=fun h=>slow_eq n x0 x1 x2 x3 (by omega) l1 l2 l3 h
 rcases first_cases x0 with hX|hX|hX|hX|hX|hX|hX|hX|hX
 ·exact absurd hX (first_ne ha)
 ·have hbad:dec n x0 x1 x2 x3=(65533,1):=dec_bad n x0 x1 x2 x3 ha (first_bad hX ha)
  rw [hbad]
  rw [hX] at hc0
  exact slow_bad n x0 b off cap w hz hz0 l0 hs0 hc0
 ·rw [hX] at hc0 heq
  rw [← heq (by omega)]
  have ha0:=(hT.2 0 (by omega)).1
  have ha1:=(hT.2 0 (by omega)).2
  by_cases hn2:n<2
  ·exact slow_C2_short n x0 x1 x2 x3 b off cap w hz hz0 (by omega) hb l0 l1 l2 l3 hs0 hc0 ha0 ha1
  ·exact slow_C2_long n x0 x1 x2 x3 b off cap w hz hz0 (by omega) (hq1 (by omega)) hb l0 l1 l2 l3 hs0 hc0 ha0 ha1
 ·rw [hX] at hc0 heq
  rw [← heq (by omega)]
  have ha0:=(hT.2 1 (by omega)).1
  have ha1:=(hT.2 1 (by omega)).2
  by_cases hn2:n<3
  ·exact slow_E0_short n x0 x1 x2 x3 b off cap w hz hz0 (by omega) hb l0 l1 l2 l3 hs0 hc0 ha0 ha1
  ·exact slow_E0_long n x0 x1 x2 x3 b off cap w hz hz0 (by omega) (by omega) (hq1 (by omega)) (hq2 (by omega)) hb l0 l1 l2 l3 hs0 hc0 ha0 ha1
 ·rw [hX] at hc0 heq
  rw [← heq (by omega)]
  have ha0:=(hT.2 0 (by omega)).1
  have ha1:=(hT.2 0 (by omega)).2
  by_cases hn2:n<3
  ·exact slow_E1_short n x0 x1 x2 x3 b off cap w hz hz0 (by omega) hb l0 l1 l2 l3 hs0 hc0 ha0 ha1
  ·exact slow_E1_long n x0 x1 x2 x3 b off cap w hz hz0 (by omega) (by omega) (hq1 (by omega)) (hq2 (by omega)) hb l0 l1 l2 l3 hs0 hc0 ha0 ha1
 ·rw [hX] at hc0 heq
  rw [← heq (by omega)]
  have ha0:=(hT.2 2 (by omega)).1
  have ha1:=(hT.2 2 (by omega)).2
  by_cases hn2:n<3
  ·exact slow_ED_short n x0 x1 x2 x3 b off cap w hz hz0 (by omega) hb l0 l1 l2 l3 hs0 hc0 ha0 ha1
  ·exact slow_ED_long n x0 x1 x2 x3 b off cap w hz hz0 (by omega) (by omega) (hq1 (by omega)) (hq2 (by omega)) hb l0 l1 l2 l3 hs0 hc0 ha0 ha1
 ·rw [hX] at hc0 heq
  rw [← heq (by omega)]
  have ha0:=(hT.2 3 (by omega)).1
  have ha1:=(hT.2 3 (by omega)).2
  by_cases hn2:n<4
  ·exact slow_F0_short n x0 x1 x2 x3 b off cap w hz hz0 (by omega) hb l0 l1 l2 l3 hs0 hc0 ha0 ha1
  ·exact slow_F0_long n x0 x1 x2 x3 b off cap w hz hz0 (by omega) (by omega) (by omega) (hq1 (by omega)) (hq2 (by omega)) (hq3 (by omega)) hb l0 l1 l2 l3 hs0 hc0 ha0 ha1
 ·rw [hX] at hc0 heq
  rw [← heq (by omega)]
  have ha0:=(hT.2 0 (by omega)).1
  have ha1:=(hT.2 0 (by omega)).2
  by_cases hn2:n<4
  ·exact slow_F1_short n x0 x1 x2 x3 b off cap w hz hz0 (by omega) hb l0 l1 l2 l3 hs0 hc0 ha0 ha1
  ·exact slow_F1_long n x0 x1 x2 x3 b off cap w hz hz0 (by omega) (by omega) (by omega) (hq1 (by omega)) (hq2 (by omega)) (hq3 (by omega)) hb l0 l1 l2 l3 hs0 hc0 ha0 ha1
 ·rw [hX] at hc0 heq
  rw [← heq (by omega)]
  have ha0:=(hT.2 4 (by omega)).1
  have ha1:=(hT.2 4 (by omega)).2
  by_cases hn2:n<4
  ·exact slow_F4_short n x0 x1 x2 x3 b off cap w hz hz0 (by omega) hb l0 l1 l2 l3 hs0 hc0 ha0 ha1
  ·exact slow_F4_long n x0 x1 x2 x3 b off cap w hz hz0 (by omega) (by omega) (by omega) (hq1 (by omega)) (hq2 (by omega)) (hq3 (by omega)) hb l0 l1 l2 l3 hs0 hc0 ha0 ha1
theorem rune_ascii (n b off cap x0:Nat) (w:World) (hn:(0:Int)<(n:Int)) (hs0:w.cell? ⟨b,off,none⟩=some (.int .u8 (x0:Int))) (ha:(x0:Int)<128) :
  Calls Tryz.prog 76 #[.slice (some ⟨b,off,none⟩) n cap] w (Gives (x0,1) w):=by
 go_enter Tryz.func76,Tryz.ntmps76
 go_wp2
 go_loop [8] (fun i=>i=.int .i64 0) (fun _=>0)
 case atStart=>rfl
 case round=>
  subst hrel
  go_wp2
  go_ret2
  exact ⟨rfl,Below.refl _ _⟩
theorem rune_on (n b off cap x0:Nat) (w:World) (r:Nat×Nat) (hn:(0:Int)<(n:Int)) (hs0:w.cell? ⟨b,off,none⟩=some (.int .u8 (x0:Int))) (ha:¬ ((x0:Int)<128))
  (cS:Calls Tryz.prog 91 #[.slice (some ⟨b,off,none⟩) n cap] w (Gives r w)) :
  Calls Tryz.prog 76 #[.slice (some ⟨b,off,none⟩) n cap] w (Gives r w):=by
 have CS:=hide cS
 clear cS
 go_enter Tryz.func76,Tryz.ntmps76
 go_wp2
 go_loop [8] (fun i=>i=.int .i64 0) (fun _=>0)
 case atStart=>rfl
 case round=>
  subst hrel
  go_wp2_with (go_at_call 91;refine CS.1.mono ?_;rintro e w' ⟨rfl,hb⟩)
  go_ret2
  exact ⟨rfl,hb⟩
theorem rune_any (bs:List UInt8) (b off cap:Nat) (w:World) (hT:Tabs w) (hn:0<bs.length) (hc:∀ j u,bs[j]?=some u→w.cell? ⟨b,off+j,none⟩=some (u8 u)) :
  Calls Tryz.prog 76 #[.slice (some ⟨b,off,none⟩) bs.length cap] w (Gives (dec bs.length (g bs 0) (g bs 1) (g bs 2) (g bs 3)) w):=by
 have hg:∀ j,j<bs.length→w.cell? ⟨b,off+j,none⟩=some (.int .u8 (g bs j:Int)):=fun j hj=>by
  have h:=List.getElem?_eq_getElem hj
  rw [g_of h]
  exact hc j _ h
 have hs0:w.cell? ⟨b,off,none⟩=some (.int .u8 (g bs 0:Int)):=hg 0 hn
 by_cases ha:g bs 0<128
 ·have e:dec bs.length (g bs 0) (g bs 1) (g bs 2) (g bs 3)=(g bs 0,1):=by unfold dec decodeN;rw [if_pos ha]
  rw [e]
  exact rune_ascii bs.length b off cap (g bs 0) w (by omega) hs0 (by omega)
 ·exact rune_on bs.length b off cap (g bs 0) w _ (by omega) hs0 (by omega)
   (slow_any bs.length _ _ _ _ b off cap w hT hn (g_lt _ _) (g_lt _ _) (g_lt _ _) (g_lt _ _) ha hs0 (hg 1) (hg 2) (hg 3))
end Go.Proofs.YtmlbklcmblofkaaGreatDoor.Utf
namespace Go.Proofs.YtmlbklcmblofkaaGreatDoor.At
open Go.RowKit Go.Lib Sy Mem Utf
theorem rune_k (bs:List UInt8) (k b off cap:Nat) (w:World) (hT:Tabs w) (hk:k<bs.length) (hc:∀ j u,bs[j]?=some u→w.cell? ⟨b,off+j,none⟩=some (u8 u)) :
  Calls Tryz.prog 76 #[.slice (some ⟨b,off+k,none⟩) (bs.length-k) cap] w (Gives (dec (bs.length-k) (g bs k) (g bs (k+1)) (g bs (k+2)) (g bs (k+3))) w):=by
 have h:=rune_any (bs.drop k) b (off+k) cap w hT (by simp;omega) (fun j u hu=>by rw [List.getElem?_drop] at hu;have:=hc (k+j) u hu;rwa [← Nat.add_assoc] at this)
 simp only [g_drop,List.length_drop,Nat.add_zero] at h
 exact h
def Pair (x:Nat×Nat) (w:World) (e:Ending) (w':World):Prop:=e=.returned (.tuple #[.int .i64 (x.1:Int),.int .i64 (x.2:Int)])∧Below w.heap.size w w'
theorem at_raw (n k b off cap x:Nat) (w:World) (hk:k<n) (hcap:n≤cap) (hm:cap≤9223372036854775807) (hx:x<256)
  (hc:w.cell? ⟨b,off+k,none⟩=some (.int .u8 (x:Int)))
  (C:Hd (Calls Tryz.prog 76 #[.slice (some ⟨b,off+k,none⟩) (n-k) (cap-k)] w (Gives (65533,1) w))) :
  Calls Tryz.prog 58 #[.slice (some ⟨b,off,none⟩) n cap,.int .i64 (k:Int)] w (Pair (1114112+x,1) w):=by
 have hkc:k<cap:=by omega
 have hb:b<w.heap.size:=cell_lt hc
 go_enter Tryz.func58,Tryz.ntmps58
 go_wp2_with fail
 refine C.1.mono ?_
 rintro e w1 ⟨rfl,hB⟩
 have hc1:=(hB.cell (p:=⟨b,off+k,none⟩) hb).trans hc
 clear hc C
 go_wp2
 go_ret2
 exact ⟨rfl,hB⟩
theorem at_rune (n k b off cap r m:Nat) (w:World) (hk:k<n) (hcap:n≤cap) (hm:cap≤9223372036854775807) (hr:r≤1114111) (hd:¬ (r=65533∧m=1))
  (C:Hd (Calls Tryz.prog 76 #[.slice (some ⟨b,off+k,none⟩) (n-k) (cap-k)] w (Gives (r,m) w))) :
  Calls Tryz.prog 58 #[.slice (some ⟨b,off,none⟩) n cap,.int .i64 (k:Int)] w (Pair (r,m) w):=by
 have hkc:k<cap:=by omega
 by_cases h0:r=65533
 ·have h1:((r:Int)==65533)=true:=by simp [h0]
  have h2:((m:Int)==1)=false:=by rw [beq_eq_false_iff_ne];omega
  clear h0 hd
  go_enter Tryz.func58,Tryz.ntmps58
  go_wp2_with fail
  refine C.1.mono ?_
  rintro e w1 ⟨rfl,hB⟩
  clear C
  go_wp2
  go_ret2
  exact ⟨rfl,hB⟩
 ·have h1:((r:Int)==65533)=false:=by rw [beq_eq_false_iff_ne];omega
  clear h0 hd
  go_enter Tryz.func58,Tryz.ntmps58
  go_wp2_with fail
  refine C.1.mono ?_
  rintro e w1 ⟨rfl,hB⟩
  clear C
  go_wp2
  go_ret2
  exact ⟨rfl,hB⟩
theorem at_flat (bs:List UInt8) (k b off cap:Nat) (w:World) (hT:Tabs w) (hk:k<bs.length) (hcap:bs.length≤cap) (hm:cap≤9223372036854775807)
  (hc:∀ j u,bs[j]?=some u→w.cell? ⟨b,off+j,none⟩=some (u8 u)) :
  Calls Tryz.prog 58 #[.slice (some ⟨b,off,none⟩) bs.length cap,.int .i64 (k:Int)] w (Pair (at_ bs k) w):=by
 have C:=rune_k bs k b off (cap-k) w hT hk hc
 have hr:=dec_top (bs.length-k) (g bs k) (g bs (k+1)) (g bs (k+2)) (g bs (k+3))
 have hck:w.cell? ⟨b,off+k,none⟩=some (.int .u8 (g bs k:Int)):=by
  have h:=List.getElem?_eq_getElem hk
  rw [g_of h]
  exact hc k _ h
 unfold at_ sy
 generalize dec (bs.length-k) (g bs k) (g bs (k+1)) (g bs (k+2)) (g bs (k+3))=d at *
 obtain ⟨r,m⟩:=d
 by_cases hd:r=65533∧m=1
 ·rw [if_pos hd]
  obtain ⟨rfl,rfl⟩:=hd
  exact at_raw bs.length k b off cap (g bs k) w hk hcap hm (g_lt _ _) hck (hide C)
 ·rw [if_neg hd]
  exact at_rune bs.length k b off cap r m w hk hcap hm hr hd (hide C)
theorem at_in (bs:List UInt8) (B k cap:Nat) (A:Option Addr) (w:World) (hT:Tabs w) (hk:k<bs.length) (hcap:bs.length≤cap) (hm:cap≤9223372036854775807)
  (h:Reads w B 1 A bs.length (bs.map u8)) :
  Calls Tryz.prog 58 #[.slice A bs.length cap,.int .i64 (k:Int)] w (Pair (at_ bs k) w):=by
 obtain ⟨b,off,rfl,_,hc⟩:=h.flat (by omega)
 exact at_flat bs k b off cap w hT hk hcap hm (fun j u hu=>hc j _ (by simp [hu]))
theorem at_out (n cap:Nat) (A:Option Addr) (k:Int) (w:World) (hk:k<0∨(n:Int)≤k) :
  Calls Tryz.prog 58 #[.slice A n cap,.int .i64 k] w fun e w'=>e=.returned (.tuple #[.int .i64 0,.int .i64 0])∧w'=w:=by
 by_cases h:k<0
 ·clear hk
  go_enter Tryz.func58,Tryz.ntmps58
  go_wp2
  go_ret2
  exact ⟨rfl,rfl⟩
 ·have h2:(n:Int)≤k:=by omega
  clear hk
  go_enter Tryz.func58,Tryz.ntmps58
  go_wp2
  go_ret2
  exact ⟨rfl,rfl⟩
end Go.Proofs.YtmlbklcmblofkaaGreatDoor.At
namespace Go.Proofs.YtmlbklcmblofkaaGreatDoor.Str
open Go.RowKit Mem
theorem conv_str (bs:List UInt8) (B n cap:Nat) (A:Option Addr) (w:World) (hn:bs.length=n) (h:Reads w B 1 A n (bs.map u8)) :
  (convert 43 9 (.slice A n cap)).run Tryz.prog w=.ok (.string ⟨bs.toArray⟩) w:=by
 subst hn
 cases A with
 | none=>
  have h0:bs.length=0:=by
   rcases Nat.eq_zero_or_pos bs.length with h0|h0
   ·exact h0
   ·obtain ⟨ad,h,_⟩:=h.2 h0
    cases h
  rw [run_convert_bytes_nil w _ _ Tryz.underlying43 Tryz.underlying5 _ _ _ Tryz.underlying9,List.eq_nil_of_length_eq_zero h0]
  rfl
 | some a=>
  refine run_convert_bytes_back w _ _ _ a cap bs Tryz.underlying43 Tryz.underlying5 Tryz.underlying9 fun j hj=>?_
  obtain ⟨ad,e,_,hc⟩:=h.2 (by omega)
  cases e
  exact hc j (u8 bs[j]) (by simp [hj])
end Go.Proofs.YtmlbklcmblofkaaGreatDoor.Str
