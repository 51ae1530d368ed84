/-
  scan.part, walked: what a part of a class has.
-/
import Derived.Test.YtmlbklcmblofkaaGreatDoorMScE
import Derived.Deep.RegionHeld3
set_option linter.unusedSimpArgs false
set_option linter.unusedVariables false
set_option maxHeartbeats 4000000
set_option maxRecDepth 100000
namespace Go.Proofs.YtmlbklcmblofkaaGreatDoor.Sc
open Go.RowKit Mem
open Sy (g)
attribute [local go_sem] build_i0 build_i3 build_in build_is Rs.run_not_true Rs.run_not_false
def GivesP (x:Except (Nat×Nat) (Part×Nat)) (w:World) (e:Ending) (w':World):Prop:=match x with
 | .error (c,pl)=>e=.returned (.tuple #[.slice none 0 0,.int .i64 0,.int .i64 (c:Int),.int .i64 (pl:Int)])∧Below w.heap.size w w'
 | .ok (p,q)=>∃ v,e=.returned (.tuple #[v,.int .i64 (q:Int),.int .i64 0,.int .i64 0])∧Lies w.heap.size (partL p) v w'∧Below w.heap.size w w'
theorem ofL_in {n:Nat} (h:n≤1114367):Rs.ofL (n:Int)=[((n:Int),(n:Int))]:=by rw [Rs.ofL_eq,if_pos (by omega)]
theorem build_rg (a b:Int) (w:World):Sem.run Tryz.prog (Instr.build 56 #[(0,.int .i64 a),(1,.int .i64 b)]) w=.ok (.agg #[.int .i64 a,.int .i64 b]) w:=Rs.build_range a b w
attribute [local go_sem] build_rg
theorem single_err (bs:List UInt8) (A:Option Addr) (cap k:Nat) (w:World) (hP:PV bs A cap w) (hG:Gl w) (hk:k<bs.length) (hl:bs.length≤4096) {c:Nat} (hx:pieceP bs k=.err c):Calls Tryz.prog 103 #[.slice A bs.length cap,.int .i64 (k:Int)] w fun e w'=>(∃ A5 c5,e=.returned (.tuple #[.agg #[.int .i64 0,.int .i64 0,.int .i64 0,.string ⟨#[]⟩,.slice A5 0 c5],.int .i64 (c:Int)]))∧Below w.heap.size w w':=by
 refine (single_any bs A cap k w hP hG hk hl).mono ?_
 rw [hx]
 rintro e w' ⟨v,rfl,⟨A5,c5,rfl,-⟩,hB⟩
 exact ⟨⟨A5,c5,rfl⟩,hB⟩
theorem single_lit (bs:List UInt8) (A:Option Addr) (cap k:Nat) (w:World) (hP:PV bs A cap w) (hG:Gl w) (hk:k<bs.length) (hl:bs.length≤4096) {n q:Nat} (hx:pieceP bs k=.lit n q):Calls Tryz.prog 103 #[.slice A bs.length cap,.int .i64 (k:Int)] w fun e w'=>(∃ A5 c5,e=.returned (.tuple #[.agg #[.int .i64 1,.int .i64 (q:Int),.int .i64 (n:Int),.string ⟨#[]⟩,.slice A5 0 c5],.int .i64 0]))∧Below w.heap.size w w':=by
 refine (single_any bs A cap k w hP hG hk hl).mono ?_
 rw [hx]
 rintro e w' ⟨v,rfl,⟨A5,c5,rfl,-⟩,hB⟩
 exact ⟨⟨A5,c5,rfl⟩,hB⟩
theorem single_set (bs:List UInt8) (A:Option Addr) (cap k:Nat) (w:World) (hP:PV bs A cap w) (hG:Gl w) (hk:k<bs.length) (hl:bs.length≤4096) {x:It} {q:Nat} (hx:pieceP bs k=x) (h2:x.kind=2) (hq:x.to=q):Calls Tryz.prog 103 #[.slice A bs.length cap,.int .i64 (k:Int)] w fun e w'=>∃ A5 c5,e=.returned (.tuple #[.agg #[.int .i64 2,.int .i64 (q:Int),.int .i64 0,.string ⟨#[]⟩,.slice A5 x.set.length c5],.int .i64 0])∧Lies w.heap.size x.set (.slice A5 x.set.length c5) w'∧Below w.heap.size w w':=by
 refine (single_any bs A cap k w hP hG hk hl).mono ?_
 rw [hx]
 rintro e w' ⟨v,rfl,hl,hB⟩
 obtain ⟨A5,c5,rfl,hl2⟩:=hl
 subst hq
 cases x with
 | cls c q=>exact ⟨A5,c5,rfl,⟨A5,c5,rfl,hl2⟩,hB⟩
 | nam s t q=>exact ⟨A5,c5,rfl,⟨A5,c5,rfl,hl2⟩,hB⟩
 | err c=>cases h2
 | lit n q=>cases h2
 | hld n q=>cases h2
 | ref n q=>cases h2
 | key n q=>cases h2
theorem part_err (bs:List UInt8) (A:Option Addr) (cap k c:Nat) (w:World) (hP:PV bs A cap w) (hG:Gl w) (hk:k<bs.length) (hl:bs.length≤4096) (hx:pieceP bs k=.err c) (hc:c≠0) :
  Calls Tryz.prog 84 #[.slice A bs.length cap,.int .i64 (k:Int)] w (GivesP (.error (c,k)) w):=by
 have CS:=hide (single_err bs A cap k w hP hG hk hl hx)
 have e0:((c:Int) != 0)=true:=by simp;omega
 clear hx hc hP hG
 go_enter Tryz.func84,Tryz.ntmps84
 go_wp2_with fail
 refine CS.1.mono ?_
 rintro e w1 ⟨⟨A5,c5,rfl⟩,hB⟩
 have HB:=hide (hB.alloc hB.size (.cells #[.int .i64 0,.int .i64 0,.int .i64 0,.string ⟨#[]⟩,.slice A5 0 c5] 116))
 clear hB
 have HK1:=hide (Blk.new w1 116 #[.int .i64 0,.int .i64 0,.int .i64 0,.string ⟨#[]⟩,.slice A5 0 c5])
 obtain ⟨⟨d10,d11,d12,d13,d14⟩,f10,f11,f12,f13,f14⟩:=cells5 HK1.1
 go_wp2_with fail
 (try simp only [Exit.inBlock,Exit.then])
 exact bodyPost_ret (v:=_) (by simp [results,Tryz.f84]) rfl ⟨rfl,HB.1⟩
theorem part_set (bs:List UInt8) (A:Option Addr) (cap k q:Nat) (w:World) (hP:PV bs A cap w) (hG:Gl w) (hk:k<bs.length) (hl:bs.length≤4096) (x:It) (hx:pieceP bs k=x) (h2:x.kind=2) (hq:x.to=q) :
  Calls Tryz.prog 84 #[.slice A bs.length cap,.int .i64 (k:Int)] w (GivesP (.ok (.it x,q)) w):=by
 have CS:=hide (single_set bs A cap k w hP hG hk hl hx h2 hq)
 have HX:=hide (show partL (.it x)=x.set from rfl)
 generalize x.set=l at *
 clear hx hP hG h2 hq
 go_enter Tryz.func84,Tryz.ntmps84
 go_wp2_with fail
 refine CS.1.mono ?_
 rintro e w1 ⟨A5,c5,rfl,hli,hB⟩
 have HL:=hide (hli.below ((Below.refl w1.heap.size w1).alloc (Nat.le_refl _) (.cells #[.int .i64 2,.int .i64 (q:Int),.int .i64 0,.string ⟨#[]⟩,.slice A5 l.length c5] 116)))
 have HB:=hide (hB.alloc hB.size (.cells #[.int .i64 2,.int .i64 (q:Int),.int .i64 0,.string ⟨#[]⟩,.slice A5 l.length c5] 116))
 clear hB hli
 have HK1:=hide (Blk.new w1 116 #[.int .i64 2,.int .i64 (q:Int),.int .i64 0,.string ⟨#[]⟩,.slice A5 l.length c5])
 obtain ⟨⟨d10,d11,d12,d13,d14⟩,f10,f11,f12,f13,f14⟩:=cells5 HK1.1
 go_wp2_with fail
 go_quiet (fail)
 go_wp2_with fail
 (try simp only [Exit.inBlock,Exit.then])
 exact bodyPost_ret (v:=.tuple #[.slice A5 l.length c5,.int .i64 (q:Int),.int .i64 0,.int .i64 0]) (by simp [results,Tryz.f84]) rfl ⟨_,rfl,by rw [HX.1];exact HL.1.below (below_drewN (Below.refl _ _) _),below_drewN HB.1 _⟩
theorem lies_new (w0 wx:World) (a b:Int) (hb:Below w0.heap.size w0 wx):Lies w0.heap.size [(a,b)] (.slice (some ⟨wx.heap.size,0,none⟩) 1 1) (wx.alloc (.cells #[.int .i64 a,.int .i64 b] 56)):=by
 refine ⟨_,1,rfl,Nat.le_refl _,by omega,fun _=>⟨wx.heap.size,0,rfl,by simp,fun k r hr=>?_⟩,fun ad e _=>by cases e;exact hb.size⟩
 have hk:k=0:=by
  have:=(List.getElem?_eq_some_iff.1 hr).1
  simpa using this
 subst hk
 obtain rfl:(a,b)=r:=by simpa using hr
 have hbk:=Blk.new wx 56 #[.int .i64 a,.int .i64 b]
 exact ⟨hbk.cell 0,hbk.cell 1⟩
def Bx1 (w:World) (g q n:Nat) (A5:Option Addr) (c5:Nat) (wx:World):Prop:=Blk wx g 116 #[.int .i64 1,.int .i64 (q:Int),.int .i64 (n:Int),.string ⟨#[]⟩,.slice A5 0 c5]∧Below w.heap.size w wx
theorem Bx1.below {w:World} {g q n:Nat} {A5:Option Addr} {c5:Nat} {wx wy:World} (h:Bx1 w g q n A5 c5 wx) (hb:Below wx.heap.size wx wy):Bx1 w g q n A5 c5 wy:=⟨h.1.below hb h.1.lt,h.2.trans (hb.mono h.2.size)⟩
theorem Bx1.held {w:World} {g q n:Nat} {A5:Option Addr} {c5:Nat} {wx:World} (h:Bx1 w g q n A5 c5 wx):Hd (Bx1 w g q n A5 c5 wx)∧wx.cell? ⟨g,1,none⟩=some (.int .i64 (q:Int))∧wx.cell? ⟨g,2,none⟩=some (.int .i64 (n:Int)):=⟨hide h,h.1.cell 1,h.1.cell 2⟩
theorem part_one (bs:List UInt8) (A:Option Addr) (cap k n q:Nat) (w:World) (hP:PV bs A cap w) (hG:Gl w) (hk:k<bs.length) (hl:bs.length≤4096) (hx:pieceP bs k=.lit n q) (hq:q≤bs.length) (hn:n≤1114367) (hr:rgP bs q=false) :
  Calls Tryz.prog 84 #[.slice A bs.length cap,.int .i64 (k:Int)] w (GivesP (.ok (.rng n n,q)) w):=by
 have CS:=hide (single_lit bs A cap k w hP hG hk hl hx)
 have hli:(bs.length:Int)≤4096:=by omega
 have hqi:(q:Int)≤(bs.length:Int):=by omega
 have HPW:=hide (fun W (hB:Below w.heap.size w W)=>hP.below hB)
 have HGW:=hide (fun W (hB:Below w.heap.size w W)=>hG.below hB)
 have HR:=hide (fun W (h:PV bs A cap W)=>pranges_any bs A cap q W h hq hl)
 rw [hr] at HR
 have HO:=hide (ofL_in hn)
 clear hx hr hP hG
 go_enter Tryz.func84,Tryz.ntmps84
 go_wp2_with fail
 refine CS.1.mono ?_
 rintro e w1 ⟨⟨A5,c5,rfl⟩,hB⟩
 have HB:=hide (hB.alloc hB.size (.cells #[.int .i64 1,.int .i64 (q:Int),.int .i64 (n:Int),.string ⟨#[]⟩,.slice A5 0 c5] 116))
 have HP1:=hide (HPW.1 _ HB.1)
 have HG1:=hide (HGW.1 _ HB.1)
 have hsz1:=hB.size
 clear hB HPW HGW
 have HK1:=hide (Blk.new w1 116 #[.int .i64 1,.int .i64 (q:Int),.int .i64 (n:Int),.string ⟨#[]⟩,.slice A5 0 c5])
 obtain ⟨⟨d10,d11,d12,d13,d14⟩,f10,f11,f12,f13,f14⟩:=cells5 HK1.1
 have HS:=hide (show Bx1 w w1.heap.size q n A5 c5 _ from ⟨HK1.1,HB.1⟩)
 go_wp2_with fail
 refine (HR.1 _ HP1.1).mono ?_
 rintro e w2 ⟨rfl,hw2⟩
 obtain rfl:_=w2:=hw2.symm
 have CO:=hide (fun W (h:Bx1 w w1.heap.size q n A5 c5 W)=>(Rs.of_any (n:Int) W).mono (R':=fun e w'=>∃ v,e=.returned v∧(Lies w.heap.size [((n:Int),(n:Int))] v w'∧Bx1 w w1.heap.size q n A5 c5 w')) fun e w' ⟨v,h1,h2⟩=>⟨v,h1,by
  rw [HO.1] at h2
  obtain ⟨hl,hb⟩:=Lies.of (Cl.cut_gives' h2)
  exact ⟨hl.mono h.2.size,h.below hb⟩⟩)
 go_wp2_with fail
 go_region_held3 (fun wx=>Hd (Bx1 w w1.heap.size q n A5 c5 wx)∧wx.cell? ⟨w1.heap.size,1,none⟩=some (.int .i64 (q:Int))∧wx.cell? ⟨w1.heap.size,2,none⟩=some (.int .i64 (n:Int)))
  (first|exact Bx1.held HS3.1.2|exact Bx1.held (HS.1.below (Below.refl _ _).drew)|go_keep)
  (first|(go_at_call 60;have hS:=(show Hd (Bx1 w w1.heap.size q n A5 c5 _)∧_ by assumption).1;refine (CO.1 _ hS.1).mono ?_;rintro e w3 ⟨v,rfl,hs3⟩;have HS3:=hide hs3;clear hs3 hS))
 all_goals
  go_wp2_with fail
  (try simp only [Exit.inBlock,Exit.then])
  exact bodyPost_ret (v:=.tuple #[v,.int .i64 (q:Int),.int .i64 0,.int .i64 0]) (by simp [results,Tryz.f84]) rfl ⟨_,rfl,HS3.1.1,HS3.1.2.2⟩
theorem part_two_err (bs:List UInt8) (A:Option Addr) (cap k n q c:Nat) (w:World) (hP:PV bs A cap w) (hG:Gl w) (hk:k<bs.length) (hl:bs.length≤4096) (hx:pieceP bs k=.lit n q) (hq:q≤bs.length) (hr:rgP bs q=true) (hy:pieceP bs (q+1)=.err c) (hc:c≠0) :
  Calls Tryz.prog 84 #[.slice A bs.length cap,.int .i64 (k:Int)] w (GivesP (.error (c,q+1)) w):=by
 have CS:=hide (single_lit bs A cap k w hP hG hk hl hx)
 have hli:(bs.length:Int)≤4096:=by omega
 have hqi:(q:Int)≤(bs.length:Int):=by omega
 have HPW:=hide (fun W (hB:Below w.heap.size w W)=>hP.below hB)
 have HGW:=hide (fun W (hB:Below w.heap.size w W)=>hG.below hB)
 have HR:=hide (fun W (h:PV bs A cap W)=>pranges_any bs A cap q W h hq hl)
 rw [hr] at HR
 obtain ⟨-,hr2,-⟩:=rg_in hr
 have hqi2:(q:Int)+1+1≤(bs.length:Int):=by omega
 clear hx hr hP hG
 have e0:((c:Int) != 0)=true:=by simp;omega
 clear hc
 go_enter Tryz.func84,Tryz.ntmps84
 go_wp2_with fail
 refine CS.1.mono ?_
 rintro e w1 ⟨⟨A5,c5,rfl⟩,hB⟩
 have HB:=hide (hB.alloc hB.size (.cells #[.int .i64 1,.int .i64 (q:Int),.int .i64 (n:Int),.string ⟨#[]⟩,.slice A5 0 c5] 116))
 have HP1:=hide (HPW.1 _ HB.1)
 have HG1:=hide (HGW.1 _ HB.1)
 have hsz1:=hB.size
 clear hB HPW HGW
 have HK1:=hide (Blk.new w1 116 #[.int .i64 1,.int .i64 (q:Int),.int .i64 (n:Int),.string ⟨#[]⟩,.slice A5 0 c5])
 obtain ⟨⟨d10,d11,d12,d13,d14⟩,f10,f11,f12,f13,f14⟩:=cells5 HK1.1
 have CS2:=hide (single_err bs A cap (q+1) _ HP1.1 HG1.1 hr2 hl hy)
 rw [Int.natCast_add] at CS2
 clear HG1 CS
 go_wp2_with fail
 refine (HR.1 _ HP1.1).mono ?_
 rintro e w2 ⟨rfl,hw2⟩
 obtain rfl:_=w2:=hw2.symm
 clear HR HP1
 go_wp2_with fail
 refine CS2.1.mono ?_
 rintro e w4 ⟨⟨A6,c6,rfl⟩,hB⟩
 have HB4:=hide ((HB.1.trans (hB.mono HB.1.size)).alloc (HB.1.trans (hB.mono HB.1.size)).size (.cells #[.int .i64 0,.int .i64 0,.int .i64 0,.string ⟨#[]⟩,.slice A6 0 c6] 116))
 have HK4:=hide ((HK1.1.below hB HK1.1.lt).alloc (.cells #[.int .i64 0,.int .i64 0,.int .i64 0,.string ⟨#[]⟩,.slice A6 0 c6] 116))
 have hsz4:=hB.size
 clear hB HB HK1 CS2 d10 d11 d12 d13 d14 f10 f11 f12 f13 f14
 obtain ⟨⟨d10,d11,d12,d13,d14⟩,f10,f11,f12,f13,f14⟩:=cells5 HK4.1
 have HK2:=hide (Blk.new w4 116 #[.int .i64 0,.int .i64 0,.int .i64 0,.string ⟨#[]⟩,.slice A6 0 c6])
 obtain ⟨⟨d20,d21,d22,d23,d24⟩,f20,f21,f22,f23,f24⟩:=cells5 HK2.1
 clear hy
 go_wp2_with fail
 (try simp only [Exit.inBlock,Exit.then])
 exact bodyPost_ret (v:=.tuple #[.slice none 0 0,.int .i64 0,.int .i64 (c:Int),.int .i64 ((q:Int)+1)]) (by simp [results,Tryz.f84]) rfl ⟨rfl,HB4.1⟩
theorem part_two_set (bs:List UInt8) (A:Option Addr) (cap k n q:Nat) (w:World) (hP:PV bs A cap w) (hG:Gl w) (hk:k<bs.length) (hl:bs.length≤4096) (x:It) (q2:Nat) (hx:pieceP bs k=.lit n q) (hq:q≤bs.length) (hr:rgP bs q=true) (hy:pieceP bs (q+1)=x) (h2:x.kind=2) (hq2:x.to=q2) :
  Calls Tryz.prog 84 #[.slice A bs.length cap,.int .i64 (k:Int)] w (GivesP (.error (33,k)) w):=by
 have CS:=hide (single_lit bs A cap k w hP hG hk hl hx)
 have hli:(bs.length:Int)≤4096:=by omega
 have hqi:(q:Int)≤(bs.length:Int):=by omega
 have HPW:=hide (fun W (hB:Below w.heap.size w W)=>hP.below hB)
 have HGW:=hide (fun W (hB:Below w.heap.size w W)=>hG.below hB)
 have HR:=hide (fun W (h:PV bs A cap W)=>pranges_any bs A cap q W h hq hl)
 rw [hr] at HR
 obtain ⟨-,hr2,-⟩:=rg_in hr
 have hqi2:(q:Int)+1+1≤(bs.length:Int):=by omega
 clear hx hr hP hG
 go_enter Tryz.func84,Tryz.ntmps84
 go_wp2_with fail
 refine CS.1.mono ?_
 rintro e w1 ⟨⟨A5,c5,rfl⟩,hB⟩
 have HB:=hide (hB.alloc hB.size (.cells #[.int .i64 1,.int .i64 (q:Int),.int .i64 (n:Int),.string ⟨#[]⟩,.slice A5 0 c5] 116))
 have HP1:=hide (HPW.1 _ HB.1)
 have HG1:=hide (HGW.1 _ HB.1)
 have hsz1:=hB.size
 clear hB HPW HGW
 have HK1:=hide (Blk.new w1 116 #[.int .i64 1,.int .i64 (q:Int),.int .i64 (n:Int),.string ⟨#[]⟩,.slice A5 0 c5])
 obtain ⟨⟨d10,d11,d12,d13,d14⟩,f10,f11,f12,f13,f14⟩:=cells5 HK1.1
 have CS2:=hide (single_set bs A cap (q+1) _ HP1.1 HG1.1 hr2 hl hy h2 hq2)
 rw [Int.natCast_add] at CS2
 clear HG1 CS
 go_wp2_with fail
 refine (HR.1 _ HP1.1).mono ?_
 rintro e w2 ⟨rfl,hw2⟩
 obtain rfl:_=w2:=hw2.symm
 clear HR HP1
 go_wp2_with fail
 generalize x.set=l at *
 refine CS2.1.mono ?_
 rintro e w4 ⟨A6,c6,rfl,-,hB⟩
 have HB4:=hide ((HB.1.trans (hB.mono HB.1.size)).alloc (HB.1.trans (hB.mono HB.1.size)).size (.cells #[.int .i64 2,.int .i64 (q2:Int),.int .i64 0,.string ⟨#[]⟩,.slice A6 l.length c6] 116))
 have HK4:=hide ((HK1.1.below hB HK1.1.lt).alloc (.cells #[.int .i64 2,.int .i64 (q2:Int),.int .i64 0,.string ⟨#[]⟩,.slice A6 l.length c6] 116))
 have hsz4:=hB.size
 clear hB HB HK1 CS2 d10 d11 d12 d13 d14 f10 f11 f12 f13 f14
 obtain ⟨⟨d10,d11,d12,d13,d14⟩,f10,f11,f12,f13,f14⟩:=cells5 HK4.1
 have HK2:=hide (Blk.new w4 116 #[.int .i64 2,.int .i64 (q2:Int),.int .i64 0,.string ⟨#[]⟩,.slice A6 l.length c6])
 obtain ⟨⟨d20,d21,d22,d23,d24⟩,f20,f21,f22,f23,f24⟩:=cells5 HK2.1
 clear hy h2 hq2
 go_wp2_with fail
 (try simp only [Exit.inBlock,Exit.then])
 exact bodyPost_ret (v:=.tuple #[.slice none 0 0,.int .i64 0,.int .i64 33,.int .i64 (k:Int)]) (by simp [results,Tryz.f84]) rfl ⟨rfl,HB4.1⟩
theorem part_two_low (bs:List UInt8) (A:Option Addr) (cap k n q m q2:Nat) (w:World) (hP:PV bs A cap w) (hG:Gl w) (hk:k<bs.length) (hl:bs.length≤4096) (hx:pieceP bs k=.lit n q) (hq:q≤bs.length) (hr:rgP bs q=true) (hy:pieceP bs (q+1)=.lit m q2) (hmn:m<n) :
  Calls Tryz.prog 84 #[.slice A bs.length cap,.int .i64 (k:Int)] w (GivesP (.error (33,k)) w):=by
 have CS:=hide (single_lit bs A cap k w hP hG hk hl hx)
 have hli:(bs.length:Int)≤4096:=by omega
 have hqi:(q:Int)≤(bs.length:Int):=by omega
 have HPW:=hide (fun W (hB:Below w.heap.size w W)=>hP.below hB)
 have HGW:=hide (fun W (hB:Below w.heap.size w W)=>hG.below hB)
 have HR:=hide (fun W (h:PV bs A cap W)=>pranges_any bs A cap q W h hq hl)
 rw [hr] at HR
 obtain ⟨-,hr2,-⟩:=rg_in hr
 have hqi2:(q:Int)+1+1≤(bs.length:Int):=by omega
 clear hx hr hP hG
 have e0:(m:Int)<(n:Int):=by omega
 clear hmn
 go_enter Tryz.func84,Tryz.ntmps84
 go_wp2_with fail
 refine CS.1.mono ?_
 rintro e w1 ⟨⟨A5,c5,rfl⟩,hB⟩
 have HB:=hide (hB.alloc hB.size (.cells #[.int .i64 1,.int .i64 (q:Int),.int .i64 (n:Int),.string ⟨#[]⟩,.slice A5 0 c5] 116))
 have HP1:=hide (HPW.1 _ HB.1)
 have HG1:=hide (HGW.1 _ HB.1)
 have hsz1:=hB.size
 clear hB HPW HGW
 have HK1:=hide (Blk.new w1 116 #[.int .i64 1,.int .i64 (q:Int),.int .i64 (n:Int),.string ⟨#[]⟩,.slice A5 0 c5])
 obtain ⟨⟨d10,d11,d12,d13,d14⟩,f10,f11,f12,f13,f14⟩:=cells5 HK1.1
 have CS2:=hide (single_lit bs A cap (q+1) _ HP1.1 HG1.1 hr2 hl hy)
 rw [Int.natCast_add] at CS2
 clear HG1 CS
 go_wp2_with fail
 refine (HR.1 _ HP1.1).mono ?_
 rintro e w2 ⟨rfl,hw2⟩
 obtain rfl:_=w2:=hw2.symm
 clear HR HP1
 go_wp2_with fail
 refine CS2.1.mono ?_
 rintro e w4 ⟨⟨A6,c6,rfl⟩,hB⟩
 have HB4:=hide ((HB.1.trans (hB.mono HB.1.size)).alloc (HB.1.trans (hB.mono HB.1.size)).size (.cells #[.int .i64 1,.int .i64 (q2:Int),.int .i64 (m:Int),.string ⟨#[]⟩,.slice A6 0 c6] 116))
 have HK4:=hide ((HK1.1.below hB HK1.1.lt).alloc (.cells #[.int .i64 1,.int .i64 (q2:Int),.int .i64 (m:Int),.string ⟨#[]⟩,.slice A6 0 c6] 116))
 have hsz4:=hB.size
 clear hB HB HK1 CS2 d10 d11 d12 d13 d14 f10 f11 f12 f13 f14
 obtain ⟨⟨d10,d11,d12,d13,d14⟩,f10,f11,f12,f13,f14⟩:=cells5 HK4.1
 have HK2:=hide (Blk.new w4 116 #[.int .i64 1,.int .i64 (q2:Int),.int .i64 (m:Int),.string ⟨#[]⟩,.slice A6 0 c6])
 obtain ⟨⟨d20,d21,d22,d23,d24⟩,f20,f21,f22,f23,f24⟩:=cells5 HK2.1
 clear hy
 go_wp2_with fail
 (try simp only [Exit.inBlock,Exit.then])
 exact bodyPost_ret (v:=.tuple #[.slice none 0 0,.int .i64 0,.int .i64 33,.int .i64 (k:Int)]) (by simp [results,Tryz.f84]) rfl ⟨rfl,HB4.1⟩
theorem part_two (bs:List UInt8) (A:Option Addr) (cap k n q m q2:Nat) (w:World) (hP:PV bs A cap w) (hG:Gl w) (hk:k<bs.length) (hl:bs.length≤4096) (hx:pieceP bs k=.lit n q) (hq:q≤bs.length) (hr:rgP bs q=true) (hy:pieceP bs (q+1)=.lit m q2) (hmn:n≤m) :
  Calls Tryz.prog 84 #[.slice A bs.length cap,.int .i64 (k:Int)] w (GivesP (.ok (.rng n m,q2)) w):=by
 have CS:=hide (single_lit bs A cap k w hP hG hk hl hx)
 have hli:(bs.length:Int)≤4096:=by omega
 have hqi:(q:Int)≤(bs.length:Int):=by omega
 have HPW:=hide (fun W (hB:Below w.heap.size w W)=>hP.below hB)
 have HGW:=hide (fun W (hB:Below w.heap.size w W)=>hG.below hB)
 have HR:=hide (fun W (h:PV bs A cap W)=>pranges_any bs A cap q W h hq hl)
 rw [hr] at HR
 obtain ⟨-,hr2,-⟩:=rg_in hr
 have hqi2:(q:Int)+1+1≤(bs.length:Int):=by omega
 clear hx hr hP hG
 have e0:(n:Int)≤(m:Int):=by omega
 clear hmn
 go_enter Tryz.func84,Tryz.ntmps84
 go_wp2_with fail
 refine CS.1.mono ?_
 rintro e w1 ⟨⟨A5,c5,rfl⟩,hB⟩
 have HB:=hide (hB.alloc hB.size (.cells #[.int .i64 1,.int .i64 (q:Int),.int .i64 (n:Int),.string ⟨#[]⟩,.slice A5 0 c5] 116))
 have HP1:=hide (HPW.1 _ HB.1)
 have HG1:=hide (HGW.1 _ HB.1)
 have hsz1:=hB.size
 clear hB HPW HGW
 have HK1:=hide (Blk.new w1 116 #[.int .i64 1,.int .i64 (q:Int),.int .i64 (n:Int),.string ⟨#[]⟩,.slice A5 0 c5])
 obtain ⟨⟨d10,d11,d12,d13,d14⟩,f10,f11,f12,f13,f14⟩:=cells5 HK1.1
 have CS2:=hide (single_lit bs A cap (q+1) _ HP1.1 HG1.1 hr2 hl hy)
 rw [Int.natCast_add] at CS2
 clear HG1 CS
 go_wp2_with fail
 refine (HR.1 _ HP1.1).mono ?_
 rintro e w2 ⟨rfl,hw2⟩
 obtain rfl:_=w2:=hw2.symm
 clear HR HP1
 go_wp2_with fail
 refine CS2.1.mono ?_
 rintro e w4 ⟨⟨A6,c6,rfl⟩,hB⟩
 have HB4:=hide ((HB.1.trans (hB.mono HB.1.size)).alloc (HB.1.trans (hB.mono HB.1.size)).size (.cells #[.int .i64 1,.int .i64 (q2:Int),.int .i64 (m:Int),.string ⟨#[]⟩,.slice A6 0 c6] 116))
 have HK4:=hide ((HK1.1.below hB HK1.1.lt).alloc (.cells #[.int .i64 1,.int .i64 (q2:Int),.int .i64 (m:Int),.string ⟨#[]⟩,.slice A6 0 c6] 116))
 have hsz4:=hB.size
 clear hB HB HK1 CS2 d10 d11 d12 d13 d14 f10 f11 f12 f13 f14
 obtain ⟨⟨d10,d11,d12,d13,d14⟩,f10,f11,f12,f13,f14⟩:=cells5 HK4.1
 have HK2:=hide (Blk.new w4 116 #[.int .i64 1,.int .i64 (q2:Int),.int .i64 (m:Int),.string ⟨#[]⟩,.slice A6 0 c6])
 obtain ⟨⟨d20,d21,d22,d23,d24⟩,f20,f21,f22,f23,f24⟩:=cells5 HK2.1
 clear hy
 go_wp2_with fail
 go_region_held3 (fun wx=>wx.cell? ⟨w1.heap.size,2,none⟩=some (.int .i64 (n:Int))∧wx.cell? ⟨w4.heap.size,2,none⟩=some (.int .i64 (m:Int))∧wx.cell? ⟨w4.heap.size,1,none⟩=some (.int .i64 (q2:Int)))
  (go_keep) (fail)
 all_goals
  have HL:=hide (lies_new w (w4.alloc (.cells #[.int .i64 1,.int .i64 (q2:Int),.int .i64 (m:Int),.string ⟨#[]⟩,.slice A6 0 c6] 116)) (n:Int) (m:Int) HB4.1)
  rw [World.size_alloc] at HL
  (try simp only [Exit.inBlock,Exit.then])
  go_wp2_with fail
  (try simp only [Exit.inBlock,Exit.then])
  exact bodyPost_ret (v:=.tuple #[.slice (some ⟨w4.heap.size+1,0,none⟩) 1 1,.int .i64 (q2:Int),.int .i64 0,.int .i64 0]) (by simp [results,Tryz.f84]) rfl ⟨_,rfl,HL.1.below (Below.refl _ _).drew,(HB4.1.alloc HB4.1.size _).drew⟩
theorem part_any (bs:List UInt8) (A:Option Addr) (cap k:Nat) (w:World) (hP:PV bs A cap w) (hG:Gl w) (hk:k<bs.length) (hl:bs.length≤4096) :
  Calls Tryz.prog 84 #[.slice A bs.length cap,.int .i64 (k:Int)] w (GivesP (partP bs k) w):=by
 have hi:=piece_in hk
 have hq:∀ x,pieceP bs k=x→InC bs k x:=fun x e=>e ▸ hi
 unfold partP
 cases hx:pieceP bs k with
 | err c=>exact part_err bs A cap k c w hP hG hk hl hx (hq _ hx).1
 | cls c q=>exact part_set bs A cap k q w hP hG hk hl _ hx rfl rfl
 | nam s t q=>exact part_set bs A cap k q w hP hG hk hl _ hx rfl rfl
 | hld n q=>exact (hq _ hx).elim
 | ref n q=>exact (hq _ hx).elim
 | key s q=>exact (hq _ hx).elim
 | lit n q=>
  obtain ⟨h1,h2,h3⟩:=hq _ hx
  simp only []
  cases hr:rgP bs q with
  | false=>
   simp only [Bool.false_eq_true,if_false]
   exact part_one bs A cap k n q w hP hG hk hl hx h2 h3 hr
  | true=>
   simp only [if_true]
   obtain ⟨-,h4,-⟩:=rg_in hr
   have hj:=piece_in h4
   have hj2:∀ y,pieceP bs (q+1)=y→InC bs (q+1) y:=fun y e=>e ▸ hj
   cases hy:pieceP bs (q+1) with
   | err c=>exact part_two_err bs A cap k n q c w hP hG hk hl hx h2 hr hy (hj2 _ hy).1
   | cls c q2=>exact part_two_set bs A cap k n q w hP hG hk hl _ q2 hx h2 hr hy rfl rfl
   | nam s t q2=>exact part_two_set bs A cap k n q w hP hG hk hl _ q2 hx h2 hr hy rfl rfl
   | hld n q=>exact (hj2 _ hy).elim
   | ref n q=>exact (hj2 _ hy).elim
   | key s q=>exact (hj2 _ hy).elim
   | lit m q2=>
    simp only []
    by_cases hmn:m<n
    ·rw [if_pos hmn];exact part_two_low bs A cap k n q m q2 w hP hG hk hl hx h2 hr hy hmn
    ·rw [if_neg hmn];exact part_two bs A cap k n q m q2 w hP hG hk hl hx h2 hr hy (by omega)
end Go.Proofs.YtmlbklcmblofkaaGreatDoor.Sc
