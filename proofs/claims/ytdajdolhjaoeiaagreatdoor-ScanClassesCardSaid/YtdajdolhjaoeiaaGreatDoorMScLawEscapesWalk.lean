/-
  ScanEscapes, walked: true at any bytes, any two numbers. Conditions: the bytes lie in memory; the tables hold what the program's text lays.
-/
import Derived.Test.YtdajdolhjaoeiaaGreatDoorMScAnchor
import Derived.Test.YtdajdolhjaoeiaaGreatDoorMScRHas
import Derived.Test.YtdajdolhjaoeiaaGreatDoorMRsC
import Derived.Deep.RegionHeld3
set_option linter.unusedVariables false
set_option linter.unusedSimpArgs false
namespace Go.Proofs.YtdajdolhjaoeiaaGreatDoor.Sc
open Go.RowKit Go.Proofs.YtdajdolhjaoeiaaGreatDoor.Mem
open Go.Proofs.YtdajdolhjaoeiaaGreatDoor.Sy (g g_of g_lt isS)
open Go.Proofs.YtdajdolhjaoeiaaGreatDoor.Rs (R Lst hasL Least)
open Go.Proofs.YtdajdolhjaoeiaaGreatDoor.Cl (isOf listOf)
attribute [local go_sem] Go.Proofs.YtdajdolhjaoeiaaGreatDoor.Rs.run_not_true Go.Proofs.YtdajdolhjaoeiaaGreatDoor.Rs.run_not_false

/-! ### what an escape can be -/
def InE : It → Prop
  | .cls c _ => isOf c = true
  | .nam _ _ _ => False
  | _ => True
theorem code_ine (bs : List UInt8) (k : Nat) : InE (codeP bs k) := by
  unfold codeP
  repeat' split
  all_goals trivial
theorem com_ine (bs : List UInt8) (k : Nat) : InE (comP bs k) := by
  unfold comP
  split
  · trivial
  · split
    · exact code_ine _ _
    · split
      · trivial
      · split
        · assumption
        · split <;> trivial
theorem esc_ine (bs : List UInt8) (b : Bool) (i : Int) : InE (escz bs b i) := by
  unfold escz
  split
  · unfold escP
    split
    · split
      · trivial
      · exact com_ine _ _
    · split
      · unfold keyP
        repeat' split
        all_goals trivial
      · split
        · unfold refP
          split <;> trivial
        · split
          · trivial
          · exact com_ine _ _
  · trivial

/-! ### the numbers -/
def numsL (x : Int) : List Int := [x, 0, 8, 9, 10, 13, 14, 31, 32, 45, 47, 48, 57, 58, 64, 65, 75, 90, 91, 94, 95, 97, 107, 115, 122, 123, 127, 128, 181, 229, 255, 383, 956, 8490, 1114111, 1114112, 1114367]
def numsA (x : Int) : Array Value := #[.int .i64 x, .int .i64 0, .int .i64 8, .int .i64 9, .int .i64 10, .int .i64 13, .int .i64 14, .int .i64 31, .int .i64 32, .int .i64 45, .int .i64 47, .int .i64 48, .int .i64 57, .int .i64 58, .int .i64 64, .int .i64 65, .int .i64 75, .int .i64 90, .int .i64 91, .int .i64 94, .int .i64 95, .int .i64 97, .int .i64 107, .int .i64 115, .int .i64 122, .int .i64 123, .int .i64 127, .int .i64 128, .int .i64 181, .int .i64 229, .int .i64 255, .int .i64 383, .int .i64 956, .int .i64 8490, .int .i64 1114111, .int .i64 1114112, .int .i64 1114367]
theorem nums_at {x : Int} {k : Nat} (hk : k < 37) : ∃ y, (numsA x)[k]? = some (.int .i64 y) := by
  show ∃ y, (((numsL x).map fun m : Int => Value.int .i64 m).toArray)[k]? = some (.int .i64 y)
  rw [List.getElem?_toArray, List.getElem?_map, List.getElem?_eq_getElem (by simpa [numsL] using hk)]
  exact ⟨_, rfl⟩
set_option maxRecDepth 100000 in
set_option maxHeartbeats 4000000 in
theorem numbers_any (x : Int) (w : World) : Calls Tryz.prog 16 #[.int .i64 x] w fun e w' => e = .returned (.slice (some ⟨w.heap.size, 0, none⟩) 37 37) ∧ Blk w' w.heap.size 3 (numsA x) ∧ Below w.heap.size w w' := by
  go_enter Tryz.func16, Tryz.ntmps16
  go_wp2_with fail
  go_ret
  exact ⟨rfl, Blk.new _ _ _, (Below.refl _ _).alloc (Nat.le_refl _) _⟩

/-! ### alike -/
def itA (a b c : Int) (s : List UInt8) (A : Option Addr) (n cap : Nat) : Array Value := #[.int .i64 a, .int .i64 b, .int .i64 c, .string ⟨s.toArray⟩, .slice A n cap]
def rIA (a b c : Int) (s : List UInt8) (l : Int) (t : Bool) : Array Value := #[.int .i64 a, .int .i64 b, .int .i64 c, .string ⟨s.toArray⟩, .int .u8 l, .bool t]
set_option maxRecDepth 100000 in
set_option maxHeartbeats 4000000 in
theorem alike_not (a b c : Int) (s : List UInt8) (A : Option Addr) (cap : Nat) (l : Int) (t : Bool) (e0 n : Int) (w : World) (ha : ¬ a = 2) :
    Calls Tryz.prog 13 #[.agg #[.int .i64 a, .int .i64 b, .int .i64 c, .string ⟨s.toArray⟩, .slice A 0 cap], .int .i64 e0, .agg #[.int .i64 a, .int .i64 b, .int .i64 c, .string ⟨s.toArray⟩, .int .u8 l, .bool t], .int .i64 e0, .int .i64 n] w fun e w' => e = .returned (.bool true) ∧ Below w.heap.size w w' := by
  have e1 : (s == s) = true := by simp
  have a1 : (a != 2) = true := by simpa using ha
  have a2 : (a == 2) = false := by simpa using ha
  have hb0 : Below w.heap.size w ((w.alloc (.cells #[.int .i64 a, .int .i64 b, .int .i64 c, .string ⟨s.toArray⟩, .slice A 0 cap] 26)).alloc (.cells #[.int .i64 a, .int .i64 b, .int .i64 c, .string ⟨s.toArray⟩, .int .u8 l, .bool t] 31)) := ((Below.refl w.heap.size w).alloc (Nat.le_refl _) _).alloc (by simp) _
  have HB0 := hide hb0
  obtain ⟨⟨x0, x1, x2, x3, x4⟩, -⟩ := cells5 ((Blk.new w 26 #[.int .i64 a, .int .i64 b, .int .i64 c, .string ⟨s.toArray⟩, .slice A 0 cap]).alloc (.cells #[.int .i64 a, .int .i64 b, .int .i64 c, .string ⟨s.toArray⟩, .int .u8 l, .bool t] 31))
  clear hb0
  go_enter Tryz.func13, Tryz.ntmps13
  go_wp2_with fail
  go_ret
  exact ⟨rfl, unhide HB0⟩

def Bxe (w : World) (IV RV NV : Array Value) (wx : World) : Prop := Blk wx w.heap.size 26 IV ∧ Blk wx (w.heap.size + 1) 31 RV ∧ Blk wx (w.heap.size + 2) 3 NV ∧ Below w.heap.size w wx
theorem Bxe.below {w : World} {IV RV NV : Array Value} {wx wy : World} (h : Bxe w IV RV NV wx) (hb : Below wx.heap.size wx wy) : Bxe w IV RV NV wy :=
  ⟨h.1.below hb h.1.lt, h.2.1.below hb h.2.1.lt, h.2.2.1.below hb h.2.2.1.lt, h.2.2.2.trans (hb.mono h.2.2.2.size)⟩
def ClsI (q0 : Int) (A : Option Addr) (n cap : Nat) : Array Value := #[.int .i64 2, .int .i64 q0, .int .i64 0, .string ⟨#[]⟩, .slice A n cap]
def ClsR (q0 : Int) (c : Nat) : Array Value := #[.int .i64 2, .int .i64 q0, .int .i64 0, .string ⟨#[]⟩, .int .u8 (c : Int), .bool false]
theorem Bxe.held {w : World} {q0 : Int} {A : Option Addr} {n cap c : Nat} {NV : Array Value} {wx : World} (h : Bxe w (ClsI q0 A n cap) (ClsR q0 c) NV wx) : Hid (Bxe w (ClsI q0 A n cap) (ClsR q0 c) NV wx) ∧ wx.cell? ⟨w.heap.size, 4, none⟩ = some (.slice A n cap) ∧
    wx.cell? ⟨w.heap.size + 1, 0, none⟩ = some (.int .i64 2) ∧ wx.cell? ⟨w.heap.size + 1, 1, none⟩ = some (.int .i64 q0) ∧ wx.cell? ⟨w.heap.size + 1, 2, none⟩ = some (.int .i64 0) ∧ wx.cell? ⟨w.heap.size + 1, 3, none⟩ = some (.string ⟨#[]⟩) ∧ wx.cell? ⟨w.heap.size + 1, 4, none⟩ = some (.int .u8 (c : Int)) ∧ wx.cell? ⟨w.heap.size + 1, 5, none⟩ = some (.bool false) :=
  ⟨hide h, h.1.cell 4, h.2.1.cell 0, h.2.1.cell 1, h.2.1.cell 2, h.2.1.cell 3, h.2.1.cell 4, h.2.1.cell 5⟩
def NuRel (w : World) (IV RV NV : Array Value) (v : Value) (wr : World) : Prop := ∃ k : Nat, v = .int .i64 (k : Int) ∧ k ≤ 37 ∧ Bxe w IV RV NV wr

set_option maxRecDepth 100000 in
set_option maxHeartbeats 8000000 in
theorem alike_cls (c q0 : Nat) (hc : isOf c = true) (A : Option Addr) (cap : Nat) (n : Int) (w : World) (hcap : (listOf c).length ≤ cap) (hL : Lst w w.heap.size A (listOf c)) :
    Calls Tryz.prog 13 #[.agg #[.int .i64 2, .int .i64 (q0 : Int), .int .i64 0, .string ⟨#[]⟩, .slice A (listOf c).length cap], .int .i64 0, .agg #[.int .i64 2, .int .i64 (q0 : Int), .int .i64 0, .string ⟨#[]⟩, .int .u8 (c : Int), .bool false], .int .i64 0, .int .i64 n] w fun e w' => e = .returned (.bool true) ∧ Below w.heap.size w w' := by
  have hlen := (Cl.listOf_len c).1
  have hc0 : 0 < c := by
    rcases Nat.eq_zero_or_pos c with rfl | h
    · cases hc
    · exact h
  have HLE := hide (Cl.listOf_least c)
  have CH := hide (fun (y : Int) W (hb : Below w.heap.size w W) => Rs.has_any (listOf c) y A cap W (by omega) ((hL.below hb).more hb.size))
  have CG := hide (fun W (hb : Below w.heap.size w W) => Rs.right_any (listOf c) A cap W (by omega) hcap ((hL.below hb).more hb.size))
  rw [decide_eq_true (unhide HLE)] at CG
  have CR := hide (fun (y : Int) W => rhas_raw 2 q0 0 [] c false y W)
  have HEQ := hide (fun y : Int => show (decide (0 ≤ y ∧ y ≤ 1114367) && (if 0 < c then (Cl.ofP c y).1 else ((Cl.hasP [] y).1 != false))) = hasL (listOf c) y by
    rw [if_pos hc0, Cl.ofP_eq]
    show (_ && hasL (listOf c) y) = _
    cases h : hasL (listOf c) y with
    | false => exact Bool.and_false _
    | true => rw [decide_eq_true (Cl.least_in (Cl.listOf_least c) y h)]; rfl)
  have CN := hide (fun W => numbers_any n W)
  generalize listOf c = l at *
  have hb0 : Below w.heap.size w ((w.alloc (.cells (ClsI q0 A l.length cap) 26)).alloc (.cells (ClsR q0 c) 31)) := ((Below.refl w.heap.size w).alloc (Nat.le_refl _) _).alloc (by simp) _
  have HB0 := hide hb0
  have hk1 := (Blk.new w 26 (ClsI q0 A l.length cap)).alloc (.cells (ClsR q0 c) 31)
  have hk2 := Blk.new (w.alloc (.cells (ClsI q0 A l.length cap) 26)) 31 (ClsR q0 c)
  rw [World.size_alloc] at hk2
  have HK1 := hide hk1
  have HK2 := hide hk2
  obtain ⟨⟨x0, x1, x2, x3, x4⟩, -⟩ := cells5 hk1
  clear hb0 hk1 hk2 hc hL HLE hc0
  go_enter Tryz.func13, Tryz.ntmps13
  go_wp2_with fail
  refine ((unhide CN) _).mono ?_
  rintro e w3 ⟨rfl, hN, hB⟩
  have HB3 := hide ((unhide HB0).trans (hB.mono (unhide HB0).size))
  have HX := hide (show Bxe w (ClsI q0 A l.length cap) (ClsR q0 c) (numsA n) w3 from ⟨(unhide HK1).below hB (unhide HK1).lt, (unhide HK2).below hB (unhide HK2).lt, by simpa using hN, unhide HB3⟩)
  clear hN hB HB0 HK1 HK2 CN x0 x1 x2 x3 x4
  go_wp2_with fail
  go_loopw [61] (fun v wr => NuRel w (ClsI q0 A l.length cap) (ClsR q0 c) (numsA n) v wr) (fun v _ => 37 - (intOf v).toNat)
  case atStart => exact ⟨0, rfl, by omega, unhide HX⟩
  case round =>
    obtain ⟨k, rfl, hk, hx⟩ := hrel
    go_hideQ
    have HXR := hide hx
    by_cases hin : k < 37
    · obtain ⟨y, hy⟩ := nums_at (x := n) hin
      have c1 : wr.cell? ⟨w.heap.size + 2, k, none⟩ = some (.int .i64 y) := (hx.2.2.1.cell k).trans hy
      have hin' : (k : Int) < 37 := by omega
      obtain ⟨q, hq⟩ : ∃ q, hasL l y = q := ⟨_, rfl⟩
      have CH1 := hide (fun W (h : Bxe w (ClsI q0 A l.length cap) (ClsR q0 c) (numsA n) W) => (unhide CH) y W h.2.2.2)
      have CR1 := hide (fun W => (unhide CR) y W)
      rw [(unhide HEQ) y] at CR1
      rw [hq] at CH1 CR1
      have e0 : (q != q) = false := by simp
      have HS := HXR
      clear hx hy hq hk
      go_wp2_with fail
      go_region_held3 (fun wx => Hid (Bxe w (ClsI q0 A l.length cap) (ClsR q0 c) (numsA n) wx) ∧ wx.cell? ⟨w.heap.size, 4, none⟩ = some (.slice A l.length cap) ∧ wx.cell? ⟨w.heap.size + 1, 0, none⟩ = some (.int .i64 2) ∧ wx.cell? ⟨w.heap.size + 1, 1, none⟩ = some (.int .i64 (q0 : Int)) ∧ wx.cell? ⟨w.heap.size + 1, 2, none⟩ = some (.int .i64 0) ∧ wx.cell? ⟨w.heap.size + 1, 3, none⟩ = some (.string ⟨#[]⟩) ∧ wx.cell? ⟨w.heap.size + 1, 4, none⟩ = some (.int .u8 (c : Int)) ∧ wx.cell? ⟨w.heap.size + 1, 5, none⟩ = some (.bool false))
        (first | exact Bxe.held (unhide HS5) | exact Bxe.held ((unhide HS).below (Below.refl _ _).drew) | go_keep)
        (first | (go_at_call 19; have hS := (show Hid (Bxe w (ClsI q0 A l.length cap) (ClsR q0 c) (numsA n) _) ∧ _ by assumption).1; refine ((unhide CH1) _ (unhide hS)).mono ?_; rintro e w5 ⟨rfl, hb⟩; have HS5 := hide ((unhide hS).below hb); clear hb hS) | (go_at_call 43; have hS := (show Hid (Bxe w (ClsI q0 A l.length cap) (ClsR q0 c) (numsA n) _) ∧ _ by assumption).1; refine ((unhide CR1) _).mono ?_; rintro e w5 ⟨rfl, hb⟩; have HS5 := hide ((unhide hS).below hb); clear hb hS))
      all_goals
        have hS := (show Hid (Bxe w (ClsI q0 A l.length cap) (ClsR q0 c) (numsA n) _) ∧ _ by assumption).1
        have HR := hide (show NuRel w (ClsI q0 A l.length cap) (ClsR q0 c) (numsA n) (.int .i64 ((k : Int) + 1)) _ from ⟨k + 1, by simp, by omega, unhide hS⟩)
        clear hS
        go_wp2_with fail
        have hR := unhide HR
        first | exact ⟨hR, by simp [intOf]; omega⟩ | go_roundw
    · have hin' : (37 : Int) ≤ (k : Int) := by omega
      have x4 : wr.cell? ⟨w.heap.size, 4, none⟩ = some (.slice A l.length cap) := hx.1.cell 4
      have HBX := hide hx.2.2.2
      clear hx
      go_wp2_with fail
      refine ((unhide CG) _ (unhide HBX)).mono ?_
      rintro e w5 ⟨rfl, hB⟩
      have HB5 := hide ((unhide HBX).trans (hB.mono (unhide HBX).size))
      clear hB
      go_wp2_with fail
      go_ret
      exact ⟨rfl, unhide HB5⟩
theorem alike_any (x : It) (hx : InE x) (A : Option Addr) (cap : Nat) (n : Int) (w : World) (hcap : x.set.length ≤ cap) (hL : Lst w w.heap.size A x.set) :
    Calls Tryz.prog 13 #[.agg #[.int .i64 (x.kind : Int), .int .i64 (x.to : Int), .int .i64 (x.num : Int), .string ⟨x.name.toArray⟩, .slice A x.set.length cap], .int .i64 (x.eno : Int), .agg #[.int .i64 (x.kind : Int), .int .i64 (x.to : Int), .int .i64 (x.num : Int), .string ⟨x.rname.toArray⟩, .int .u8 (x.letter : Int), .bool x.turned], .int .i64 (x.eno : Int), .int .i64 n] w fun e w' => e = .returned (.bool true) ∧ Below w.heap.size w w' := by
  cases x with
  | cls c q0 => exact alike_cls c q0 hx A cap n w hcap hL
  | nam s t q0 => exact hx.elim
  | err e => exact alike_not _ _ _ [] A cap _ _ _ n w (show ¬ ((0 : Nat) : Int) = 2 by omega)
  | lit a b => exact alike_not _ _ _ [] A cap _ _ _ n w (show ¬ ((1 : Nat) : Int) = 2 by omega)
  | hld a b => exact alike_not _ _ _ [] A cap _ _ _ n w (show ¬ ((3 : Nat) : Int) = 2 by omega)
  | ref a b => exact alike_not _ _ _ [] A cap _ _ _ n w (show ¬ ((4 : Nat) : Int) = 2 by omega)
  | key s b => exact alike_not _ _ _ s A cap _ _ _ n w (show ¬ ((5 : Nat) : Int) = 2 by omega)

/-! ### the law -/
def IA (x : It) (A : Option Addr) (cap : Nat) : Array Value := #[.int .i64 (x.kind : Int), .int .i64 (x.to : Int), .int .i64 (x.num : Int), .string ⟨x.name.toArray⟩, .slice A x.set.length cap]
def RA (x : It) : Array Value := #[.int .i64 (x.kind : Int), .int .i64 (x.to : Int), .int .i64 (x.num : Int), .string ⟨x.rname.toArray⟩, .int .u8 (x.letter : Int), .bool x.turned]
/-- what the law has in memory, behind its four calls -/
def Four (w : World) (p q : Nat × Nat) (x y : It) (A C : Option Addr) (a c : Nat) (wx : World) : Prop := Blk wx p.1 26 (IA x A a) ∧ Blk wx p.2 31 (RA x) ∧ Blk wx q.1 26 (IA y C c) ∧ Blk wx q.2 31 (RA y) ∧ Lst wx wx.heap.size A x.set ∧ Lst wx wx.heap.size C y.set ∧ Below w.heap.size w wx
theorem Four.below {w : World} {p q : Nat × Nat} {x y : It} {A C : Option Addr} {a c : Nat} {wx wy : World} (h : Four w p q x y A C a c wx) (hb : Below wx.heap.size wx wy) : Four w p q x y A C a c wy := by
  obtain ⟨h1, h2, h3, h4, h5, h6, h7⟩ := h
  exact ⟨h1.below hb h1.lt, h2.below hb h2.lt, h3.below hb h3.lt, h4.below hb h4.lt, (h5.below hb).more hb.size, (h6.below hb).more hb.size, h7.trans (hb.mono h7.size)⟩
def itIt (x : It) (v : Value) : Value := .agg #[.int .i64 (x.kind : Int), .int .i64 (x.to : Int), .int .i64 (x.num : Int), .string ⟨x.name.toArray⟩, v]

set_option maxRecDepth 100000 in
set_option maxHeartbeats 4000000 in
theorem walkEscapes (A : Option Addr) (cap : Nat) (bs : List UInt8) (i n : Int) (w : World) (hG : Gl w) (hP : PV bs A cap w) (hi : -9223372036854775808 ≤ i ∧ i ≤ 9223372036854775807) (hn : -9223372036854775808 ≤ n ∧ n ≤ 9223372036854775807) :
    Calls Tryz.prog 3 #[.slice A bs.length cap, .int .i64 i, .int .i64 n] w fun e w' => e = .returned (.bool true) ∧ Below w.heap.size w w' := by
  have CA := hide (anchor_any w hG)
  have C1 := hide (fun W (h : PV bs A cap W) (hg : Gl W) => escape_any bs A cap i W h hg)
  have C2 := hide (fun W (h : PV bs A cap W) => resc_any bs A cap false i W h)
  have C3 := hide (fun W (h : PV bs A cap W) (hg : Gl W) => inner_any bs A cap i W h hg)
  have C4 := hide (fun W (h : PV bs A cap W) => resc_any bs A cap true i W h)
  have HPW := hide (fun W (hB : Below w.heap.size w W) => hP.below hB)
  have HGW := hide (fun W (hB : Below w.heap.size w W) => hG.below hB)
  have hx := esc_ine bs false i
  have hy := esc_ine bs true i
  generalize escz bs false i = x at *
  generalize escz bs true i = y at *
  have C5 := hide (fun (A : Option Addr) (cap : Nat) W hc hL => alike_any x hx A cap n W hc hL)
  have C6 := hide (fun (A : Option Addr) (cap : Nat) W hc hL => alike_any y hy A cap n W hc hL)
  clear hP hG hx hy hi hn
  go_enter Tryz.func3, Tryz.ntmps3
  go_wp2_with fail
  refine (unhide CA).mono ?_
  rintro e w1 ⟨rfl, hB⟩
  have HB1 := hide hB
  clear hB CA
  go_wp2_with fail
  refine ((unhide C1) _ ((unhide HPW) _ (unhide HB1)) ((unhide HGW) _ (unhide HB1))).mono ?_
  rintro e w2 ⟨v2, rfl, hl, hB⟩
  obtain ⟨A2, c2, rfl, hc2, hm2, hL2, -⟩ := hl
  have hB2 : Below w.heap.size w w2 := (unhide HB1).trans (hB.mono (unhide HB1).size)
  unfold itV
  have hX := hB2.alloc hB2.size (.cells (IA x A2 c2) 26)
  have hk := Blk.new w2 26 (IA x A2 c2)
  have hlst := (hL2.below ((Below.refl w2.heap.size w2).alloc (Nat.le_refl _) (.cells (IA x A2 c2) 26))).more (B' := (w2.alloc (.cells (IA x A2 c2) 26)).heap.size) (by simp)
  have hsz : w.heap.size ≤ w2.heap.size := hB2.size
  obtain ⟨X2, hX2⟩ : ∃ X, w2.alloc (.cells (IA x A2 c2) 26) = X := ⟨_, rfl⟩
  rw [hX2] at hX hk hlst
  have HB2 := hide hX
  have HK2 := hide hk
  have HL2 := hide hlst
  have HCC := hide hc2
  have HC2 := hide ((unhide C2) X2 ((unhide HPW) _ hX))
  unfold IA at hX2
  clear hB hB2 hX hk hlst hL2 hc2 hm2 HB1 C1 C2 hsz
  go_wp2_with fail
  refine (unhide HC2).mono ?_
  rintro e w3 ⟨rfl, hB⟩
  unfold rItV
  have hB3 : Below w.heap.size w w3 := (unhide HB2).trans (hB.mono (unhide HB2).size)
  have hX := hB3.alloc hB3.size (.cells (RA x) 31)
  have hs : Below X2.heap.size X2 (w3.alloc (.cells (RA x) 31)) := hB.alloc hB.size _
  have hk := Blk.new w3 31 (RA x)
  obtain ⟨X3, hX3⟩ : ∃ X, w3.alloc (.cells (RA x) 31) = X := ⟨_, rfl⟩
  rw [hX3] at hX hk hs
  have HB3 := hide hX
  have HK3 := hide hk
  have HK2 := hide ((unhide HK2).below hs (unhide HK2).lt)
  have HL2 := hide (((unhide HL2).below hs).more hs.size)
  have HC3 := hide ((unhide C3) X3 ((unhide HPW) _ hX) ((unhide HGW) _ hX))
  unfold RA at hX3
  clear hB hB3 hX hk hs HB2 HC2
  go_wp2_with fail
  refine (unhide HC3).mono ?_
  rintro e w4 ⟨v4, rfl, hl, hB⟩
  obtain ⟨A4, c4, rfl, hc4, hm4, hL4, -⟩ := hl
  unfold itV
  have hB4 : Below w.heap.size w w4 := (unhide HB3).trans (hB.mono (unhide HB3).size)
  have hX := hB4.alloc hB4.size (.cells (IA y A4 c4) 26)
  have hs : Below X3.heap.size X3 (w4.alloc (.cells (IA y A4 c4) 26)) := hB.alloc hB.size _
  have hk := Blk.new w4 26 (IA y A4 c4)
  have hlst := (hL4.below ((Below.refl w4.heap.size w4).alloc (Nat.le_refl _) (.cells (IA y A4 c4) 26))).more (B' := (w4.alloc (.cells (IA y A4 c4) 26)).heap.size) (by simp)
  obtain ⟨X4, hX4⟩ : ∃ X, w4.alloc (.cells (IA y A4 c4) 26) = X := ⟨_, rfl⟩
  rw [hX4] at hX hk hlst hs
  have HB4 := hide hX
  have HK4 := hide hk
  have HL4 := hide hlst
  have HCC4 := hide hc4
  have HK2 := hide ((unhide HK2).below hs (unhide HK2).lt)
  have HL2 := hide (((unhide HL2).below hs).more hs.size)
  have HK3 := hide ((unhide HK3).below hs (unhide HK3).lt)
  have HC4 := hide ((unhide C4) X4 ((unhide HPW) _ hX))
  unfold IA at hX4
  clear hB hB4 hX hk hs hlst hL4 hc4 hm4 HB3 HC3
  go_wp2_with fail
  refine (unhide HC4).mono ?_
  rintro e w5 ⟨rfl, hB⟩
  unfold rItV
  have hB5 : Below w.heap.size w w5 := (unhide HB4).trans (hB.mono (unhide HB4).size)
  have hX := hB5.alloc hB5.size (.cells (RA y) 31)
  have hs : Below X4.heap.size X4 (w5.alloc (.cells (RA y) 31)) := hB.alloc hB.size _
  have hk := Blk.new w5 31 (RA y)
  obtain ⟨X5, hX5⟩ : ∃ X, w5.alloc (.cells (RA y) 31) = X := ⟨_, rfl⟩
  rw [hX5] at hX hk hs
  have HB5 := hide hX
  have HK5 := hide hk
  have HK2 := hide ((unhide HK2).below hs (unhide HK2).lt)
  have HL2 := hide (((unhide HL2).below hs).more hs.size)
  have HK3 := hide ((unhide HK3).below hs (unhide HK3).lt)
  have HK4 := hide ((unhide HK4).below hs (unhide HK4).lt)
  have HL4 := hide (((unhide HL4).below hs).more hs.size)
  unfold RA at hX5
  clear hB hB5 hX hk hs HB4 HC4
  obtain ⟨⟨x0, x1, x2, x3, x4⟩, -⟩ := cells5 (unhide HK2)
  obtain ⟨⟨y0, y1, y2, y3, y4, y5⟩, -⟩ := cells6 (unhide HK3)
  have D5 := hide ((unhide C5) A2 c2 X5 (unhide HCC) (unhide HL2))
  clear C5 HL2 HCC
  go_wp2_with fail
  refine (unhide D5).mono ?_
  rintro e w6 ⟨rfl, hB⟩
  have HB6 := hide ((unhide HB5).trans (hB.mono (unhide HB5).size))
  have hk4 := (unhide HK4).below hB (unhide HK4).lt
  have hk5 := (unhide HK5).below hB (unhide HK5).lt
  have D6 := hide ((unhide C6) A4 c4 w6 (unhide HCC4) (((unhide HL4).below hB).more hB.size))
  clear x0 x1 x2 x3 x4 y0 y1 y2 y3 y4 y5 hB D5 HB5 HK2 HK3 HK4 HK5 HL4 C6
  obtain ⟨⟨x0, x1, x2, x3, x4⟩, -⟩ := cells5 hk4
  obtain ⟨⟨y0, y1, y2, y3, y4, y5⟩, -⟩ := cells6 hk5
  clear hk4 hk5
  go_wp2_with fail
  refine (unhide D6).mono ?_
  rintro e w7 ⟨rfl, hB⟩
  have HB7 := hide ((unhide HB6).trans (hB.mono (unhide HB6).size))
  clear hB HB6 D6 x0 x1 x2 x3 x4 y0 y1 y2 y3 y4 y5
  go_wp2_with fail
  go_ret
  exact ⟨rfl, unhide HB7⟩
end Go.Proofs.YtdajdolhjaoeiaaGreatDoor.Sc
