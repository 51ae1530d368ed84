/-
  ScanDigits, walked: true at any number. Conditions: the tables hold what the program's text lays.
-/
import Derived.Test.YtipehpnbfdnehaaGreatDoorMScAnchor
import Derived.Laws.Runes
set_option linter.unusedVariables false
set_option linter.unusedSimpArgs false
namespace Go.Proofs.YtipehpnbfdnehaaGreatDoor.Sc
open Go.RowKit Go.Proofs.YtipehpnbfdnehaaGreatDoor.Mem
open Go.Proofs.YtipehpnbfdnehaaGreatDoor.Sy (g g_of g_lt isS)
attribute [local go_sem] Go.Proofs.YtipehpnbfdnehaaGreatDoor.Rs.run_not_true Go.Proofs.YtipehpnbfdnehaaGreatDoor.Rs.run_not_false

/-! ### digits -/
def hexB : List UInt8 := [48, 49, 50, 51, 52, 53, 54, 55, 56, 57, 97, 98, 99, 100, 101, 102]
def hexc (d : Nat) : UInt8 := hexB.getD d 0
def hd (c : UInt8) : Nat := (hexD c.toNat).getD 0
theorem hexc_is : ∀ d : Fin 16, hexD (hexc d.val).toNat = some d.val ∧ (hexc d.val).toNat < 128 := by decide
/-- A number, and digits behind it. -/
def hexV (n : Nat) (s : List UInt8) : Nat := s.foldl (fun a c => 16 * a + hd c) n
def Digs (s : List UInt8) : Prop := ∀ c ∈ s, hexD c.toNat = some (hd c)
theorem hexV_step (n : Nat) (s : List UInt8) : hexV (n / 16) (hexc (n % 16) :: s) = hexV n s := by
  unfold hexV
  rw [List.foldl_cons]
  congr 1
  have h := (hexc_is ⟨n % 16, by omega⟩).1
  simp only [] at h
  unfold hd
  rw [h, Option.getD_some]
  omega
theorem digs_step {s : List UInt8} (n : Nat) (h : Digs s) : Digs (hexc (n % 16) :: s) := by
  intro c hc
  rcases List.mem_cons.1 hc with rfl | hc
  · have h := (hexc_is ⟨n % 16, by omega⟩).1
    simp only [] at h
    unfold hd
    rw [h]; rfl
  · exact h c hc
theorem hexF_run {bs : List UInt8} : ∀ (s : List UInt8) (k M num : Nat), s.length ≤ M → Digs s → (∀ j c, s[j]? = some c → bs[k + j]? = some c) → hexD (g bs (k + s.length)) = none → hexF bs k M num = (hexV num s, s.length)
  | [], k, M, num, _, _, _, hn => hexF_none M num hn
  | c :: s, k, M, num, hM, hD, hg, hn => by
    obtain ⟨M, rfl⟩ : ∃ m, M = m + 1 := ⟨M - 1, by simp at hM; omega⟩
    have h0 : g bs k = c.toNat := g_of (hg 0 c rfl)
    rw [hexF_some M num (d := hd c) (by rw [h0]; exact hD c (by simp))]
    have ih := hexF_run (bs := bs) s (k + 1) M (16 * num + hd c) (by simpa using hM) (fun c hc => hD c (List.mem_cons_of_mem _ hc)) (fun j c hj => by
      have := hg (j + 1) c hj
      rwa [show k + 1 + j = k + (j + 1) by omega]) (by rwa [show k + 1 + s.length = k + (c :: s).length by simp; omega])
    rw [ih]
    rfl
/-- A symbol, written. -/
def wrs (s : List UInt8) : List UInt8 := [92, 120, 123] ++ s ++ [125]
theorem wr_code {s : List UInt8} {x : Nat} (hs : 0 < s.length) (hl : s.length ≤ 6) (hD : Digs s) (hv : hexV 0 s = x) (hx : isS (x : Int) = true) : codeP (wrs s) 2 = .lit x (s.length + 4) := by
  have hw : wrs s = 92 :: 120 :: 123 :: (s ++ [125]) := rfl
  have hF := hexF_run (bs := wrs s) s 3 6 0 hl hD (fun j c hj => by
    rw [hw, show 3 + j = j + 1 + 1 + 1 by omega]
    simp only [List.getElem?_cons_succ]
    rw [List.getElem?_append_left (List.getElem?_eq_some_iff.1 hj).1]; exact hj) (by
    have : (wrs s)[3 + s.length]? = some 125 := by
      rw [hw, show 3 + s.length = s.length + 1 + 1 + 1 by omega]
      simp
    rw [g_of this]; rfl)
  rw [hv] at hF
  have h125 : g (wrs s) (3 + s.length) = 125 := by
    have : (wrs s)[3 + s.length]? = some 125 := by
      rw [hw, show 3 + s.length = s.length + 1 + 1 + 1 by omega]
      simp
    rw [g_of this]; rfl
  unfold codeP
  rw [if_pos (show g (wrs s) 2 = 123 from rfl), show 2 + 1 = 3 from rfl, hF]
  simp only []
  rw [if_neg]
  · show It.lit x (3 + s.length + 1) = _
    rw [show 3 + s.length + 1 = s.length + 4 by omega]
  · rw [h125, hx]
    rintro (h | h | h)
    · omega
    · exact h rfl
    · cases h
theorem wr_esc {s : List UInt8} {x : Nat} (b : Bool) (hs : 0 < s.length) (hl : s.length ≤ 6) (hD : Digs s) (hv : hexV 0 s = x) (hx : isS (x : Int) = true) : escz (wrs s) b 0 = .lit x (s.length + 4) := by
  have h1 : comP (wrs s) 1 = .lit x (s.length + 4) := by
    unfold comP
    rw [if_neg (by show ¬ (wrs s).length ≤ 1; simp [wrs]), if_pos (show g (wrs s) 1 = 120 from rfl)]
    exact wr_code hs hl hD hv hx
  show escz (wrs s) b ((0 : Nat) : Int) = _
  rw [escz_yes b (show g (wrs s) 0 = 92 from rfl)]
  have h120 : g (wrs s) (0 + 1) = 120 := rfl
  unfold escP
  cases b with
  | true => rw [if_pos rfl, if_neg (by rw [h120]; omega)]; exact h1
  | false =>
    rw [if_neg (by simp), if_neg (by rw [h120]; omega), if_neg (by rw [h120]; omega)]
    show (match hldO 120 with
      | some n => It.hld n (1 + 1)
      | none => comP (wrs s) 1) = _
    exact h1
/-! ### the constant text, behind a name -/
def hexT : ByteArray := ⟨#[48, 49, 50, 51, 52, 53, 54, 55, 56, 57, 97, 98, 99, 100, 101, 102]⟩
theorem hexT_size : hexT.size = 16 := by decide
theorem fold_hexT : (⟨#[48, 49, 50, 51, 52, 53, 54, 55, 56, 57, 97, 98, 99, 100, 101, 102]⟩ : ByteArray) = hexT := rfl
theorem run_index_hexT {P : Program} (w : World) (t : TypeId) (k : IntKind) (n : Nat) (h : P.underlying t = some .string) :
    (Instr.index t (.string hexT) (.int k ((n : Int) % 16))).run P w = .ok (.int .u8 ((hexc (n % 16)).toNat : Int)) w := by
  rw [run_index_string w t hexT k _ h, dif_pos ⟨by omega, by rw [hexT_size]; omega⟩]
  have hlt : n % 16 < 16 := by omega
  have e : ((n : Int) % 16).toNat = n % 16 := by omega
  simp only [e]
  have key : ∀ d : Fin 16, (hexT[d.val]'(by rw [hexT_size]; exact d.isLt)) = hexc d.val := by decide
  rw [key ⟨n % 16, hlt⟩]
theorem hexc_encode (d : Nat) (h : d < 16) : Utf8.encode ((hexc d).toNat : Int) = ⟨#[hexc d]⟩ := by
  have key : ∀ d : Fin 16, Utf8.encode ((hexc d.val).toNat : Int) = ⟨#[hexc d.val]⟩ := by decide
  exact key ⟨d, h⟩
theorem one_append (c : UInt8) (s : List UInt8) : (⟨#[c]⟩ : ByteArray) ++ ⟨s.toArray⟩ = ⟨(c :: s).toArray⟩ := by
  apply ByteArray.ext
  rw [ByteArray.data_append]
  simp
theorem run_convert_hexc {P : Program} (w : World) (src dst : TypeId) (k : IntKind) (n : Nat) (hs : (P.underlying src).isSome = true) (hd : P.underlying dst = some .string) :
    (convert src dst (.int k ((hexc (n % 16)).toNat : Int))).run P w = .ok (.string ⟨#[hexc (n % 16)]⟩) w := by
  rw [run_convert_int_string w src dst k _ hs hd, hexc_encode (n % 16) (by omega)]
attribute [local go_sem high] fold_hexT run_index_hexT run_convert_hexc one_append

/-! ### a text that is made, as bytes -/
def wrA (s : List UInt8) : List UInt8 := [92, 120, 123] ++ s
theorem wr_a (s : List UInt8) : (⟨#[92, 120, 123]⟩ : ByteArray) ++ ⟨s.toArray⟩ = ⟨(wrA s).toArray⟩ := by
  apply ByteArray.ext
  rw [ByteArray.data_append]
  simp [wrA]
theorem wr_b (s : List UInt8) : (⟨(wrA s).toArray⟩ : ByteArray) ++ ⟨#[125]⟩ = ⟨(wrs s).toArray⟩ := by
  apply ByteArray.ext
  rw [ByteArray.data_append]
  simp [wrA, wrs]
def strC (bs : List UInt8) (W : World) : Nat := grownCap W bs.length 0 5
def strW (bs : List UInt8) (W : World) : World := W.drew.alloc (.cells (bytesRow ⟨bs.toArray⟩ (strC bs W)) 5 ((bytesRow ⟨bs.toArray⟩ (strC bs W)).size, (bytesRow ⟨bs.toArray⟩ (strC bs W)).size + 1))
theorem conv_wr (s : List UInt8) (W : World) : (convert 9 22 (.string ⟨(wrs s).toArray⟩)).run Tryz.prog W = .ok (.slice (some ⟨W.heap.size, 0, none⟩) (wrs s).length (strC (wrs s) W)) (strW (wrs s) W) := by
  rw [run_bytes_of_string (P := Tryz.prog) W _ _ _ _ Tryz.underlying9 Tryz.underlying22 Tryz.underlying5]
  have hs : (⟨(wrs s).toArray⟩ : ByteArray).size = (wrs s).length := by show (wrs s).toArray.size = _; simp
  rw [hs]
  rfl
theorem strW_below (bs : List UInt8) (W : World) : Below W.heap.size W (strW bs W) := ((Below.refl _ W).drew).alloc (Nat.le_refl _) _
theorem strW_size (bs : List UInt8) (W : World) : (strW bs W).heap.size = W.heap.size + 1 := by
  unfold strW
  rw [World.size_alloc]
  rfl
theorem strW_pv (bs : List UInt8) (W : World) (hl : bs.length ≤ 1000) : PV bs (some ⟨W.heap.size, 0, none⟩) (strC bs W) (strW bs W) := by
  have h1 := grownCap_ge W bs.length 0 5
  have h2 := grownCap_le_maxLen W bs.length 0 5 (by unfold maxLen; omega)
  unfold maxLen at h2
  have hsz := strW_size bs W
  refine ⟨h1, by unfold strC; omega, by rw [List.length_map, Nat.mul_one], fun _ => ⟨_, rfl, by rw [hsz]; simp, fun j u hu => ?_⟩⟩
  unfold strW
  rw [Go.WideShapes.add_plain, Nat.zero_add, show W.heap.size = W.drew.heap.size from rfl, World.cell?_alloc_mark]
  unfold bytesRow
  rw [Array.getElem?_append_left (by
    have := (List.getElem?_eq_some_iff.1 hu).1
    simpa using this)]
  rw [← Array.getElem?_toList]
  simpa using hu
attribute [local go_sem high] wr_a wr_b conv_wr

def szOf : Value → Nat | .string b => b.size | _ => 0
def GRel (x : Nat) (w : World) (v i : Value) (wr : World) : Prop := ∃ (n : Nat) (s : List UInt8), v = .string ⟨s.toArray⟩ ∧ i = .int .i64 n ∧ hexV n s = x ∧ Digs s ∧ s.length ≤ 6 ∧ n < 16 ^ (6 - s.length) ∧ wr = w
theorem grel_step {x n : Nat} {s : List UInt8} {w : World} (hv : hexV n s = x) (hD : Digs s) (hl : s.length ≤ 6) (hn : n < 16 ^ (6 - s.length)) (hc : 0 < n ∨ s.length = 0) :
    GRel x w (.string ⟨(hexc (n % 16) :: s).toArray⟩) (.int .i64 ((n / 16 : Nat) : Int)) w ∧ s.length < 6 := by
  have h6 : s.length < 6 := by
    rcases hc with hc | hc
    · rcases Nat.lt_or_ge s.length 6 with h | h
      · exact h
      · rw [show 6 - s.length = 0 by omega] at hn
        simp at hn
        omega
    · omega
  refine ⟨⟨n / 16, hexc (n % 16) :: s, rfl, rfl, (hexV_step n s).trans hv, digs_step n hD, by simp; omega, ?_, rfl⟩, h6⟩
  rw [List.length_cons]
  have e : 6 - s.length = (6 - (s.length + 1)) + 1 := by omega
  rw [e, Nat.pow_succ] at hn
  omega

/-! ### the walk -/
theorem esc_made {s : List UInt8} {x : Nat} (W : World) (hG : Gl W) (hs : 0 < s.length) (hl : s.length ≤ 6) (hD : Digs s) (hv : hexV 0 s = x) (hx : isS (x : Int) = true) :
    Calls Tryz.prog 10 #[.slice (some ⟨W.heap.size, 0, none⟩) (wrs s).length (strC (wrs s) W), .int .i64 0] (strW (wrs s) W) fun e w' => (∃ A1 c1, e = .returned (.tuple #[.agg #[.int .i64 1, .int .i64 ((s.length : Int) + 4), .int .i64 (x : Int), .string ⟨#[]⟩, .slice A1 0 c1], .int .i64 0])) ∧ Below W.heap.size W w' := by
  have := escape_any (wrs s) _ _ 0 _ (strW_pv (wrs s) W (by simp [wrs]; omega)) (hG.below (strW_below _ _))
  rw [wr_esc false hs hl hD hv hx] at this
  refine this.mono ?_
  rintro e w' ⟨v, rfl, ⟨A1, c1, rfl, -⟩, hB⟩
  have ev : (((It.lit x (s.length + 4)).to : Nat) : Int) = (s.length : Int) + 4 := by show ((s.length + 4 : Nat) : Int) = _; omega
  unfold itV
  rw [ev]
  exact ⟨⟨A1, c1, rfl⟩, (strW_below _ _).trans (hB.mono (by rw [strW_size]; omega))⟩
theorem inn_made {s : List UInt8} {x : Nat} (W : World) (hG : Gl W) (hs : 0 < s.length) (hl : s.length ≤ 6) (hD : Digs s) (hv : hexV 0 s = x) (hx : isS (x : Int) = true) :
    Calls Tryz.prog 12 #[.slice (some ⟨W.heap.size, 0, none⟩) (wrs s).length (strC (wrs s) W), .int .i64 0] (strW (wrs s) W) fun e w' => (∃ A1 c1, e = .returned (.tuple #[.agg #[.int .i64 1, .int .i64 ((s.length : Int) + 4), .int .i64 (x : Int), .string ⟨#[]⟩, .slice A1 0 c1], .int .i64 0])) ∧ Below W.heap.size W w' := by
  have := inner_any (wrs s) _ _ 0 _ (strW_pv (wrs s) W (by simp [wrs]; omega)) (hG.below (strW_below _ _))
  rw [wr_esc true hs hl hD hv hx] at this
  refine this.mono ?_
  rintro e w' ⟨v, rfl, ⟨A1, c1, rfl, -⟩, hB⟩
  have ev : (((It.lit x (s.length + 4)).to : Nat) : Int) = (s.length : Int) + 4 := by show ((s.length + 4 : Nat) : Int) = _; omega
  unfold itV
  rw [ev]
  exact ⟨⟨A1, c1, rfl⟩, (strW_below _ _).trans (hB.mono (by rw [strW_size]; omega))⟩

set_option maxRecDepth 100000 in
set_option maxHeartbeats 4000000 in
theorem digits_in (x : Nat) (w : World) (hG : Gl w) (hx : isS (x : Int) = true) :
    Calls Tryz.prog 8 #[.int .i64 (x : Int)] w fun e w' => e = .returned (.bool true) ∧ Below w.heap.size w w' := by
  have CA := hide (anchor_any w hG)
  have HG := hide hG
  have hx' := hx
  unfold isS at hx'
  rw [decide_eq_true_eq] at hx'
  have HX := hide hx
  have hx0 : 0 ≤ (x : Int) := by omega
  have hx1 : (x : Int) ≤ 1114367 := by omega
  have k1 : (decide (55296 ≤ (x : Int)) && decide ((x : Int) ≤ 57343)) = false := by rw [Bool.and_eq_false_iff, decide_eq_false_iff_not, decide_eq_false_iff_not]; omega
  have hxr : (x : Int) ≤ 55295 ∨ (57344 ≤ (x : Int) ∧ (x : Int) ≤ 1114111) ∨ 1114240 ≤ (x : Int) := by omega
  clear hG hx hx'
  rcases hxr with j1 | ⟨j1, j2⟩ | j1
  · go_enter Tryz.func8, Tryz.ntmps8
    go_wp2_with fail
    refine (unhide CA).mono ?_
    rintro e w1 ⟨rfl, hB⟩
    have HB := hide hB
    have HG1 := hide ((unhide HG).below hB)
    clear hB HG CA
    go_wp2_with fail
    go_loopw [3, 4] (fun v i wr => GRel x w1 v i wr) (fun v _ _ => 7 - szOf v)
    case atStart => exact ⟨x, [], rfl, rfl, rfl, by simp [Digs], by simp, by simp; omega, rfl⟩
    case round =>
      obtain ⟨n, s, rfl, rfl, hv, hD, hl, hn, rfl⟩ := hrel
      go_hideQ
      have HST := hide (fun hc => grel_step (w := wr) hv hD hl hn hc)
      have hn16 : (n : Int) ≤ 16777216 := by
        have : 16 ^ (6 - s.length) ≤ 16 ^ 6 := Nat.pow_le_pow_right (by omega) (by omega)
        omega
      have hm1 : Int.tmod (n : Int) 16 = (n : Int) % 16 := by rw [Int.tmod_eq_emod_of_nonneg (by omega)]
      by_cases h0 : 0 < n
      · have h0' : 0 < (n : Int) := by omega
        obtain ⟨hR, h6⟩ := (unhide HST) (.inl h0)
        have HR := hide hR
        have hd0 : decide (0 < n) = true := decide_eq_true h0
        clear hR HST hv hD hn h0
        go_wp2_with fail
        have hR' := unhide HR
        rw [show ((n : Int) / 16) = ((n / 16 : Nat) : Int) by omega]
        refine ⟨hR', ?_⟩
        show 7 - (hexc (n % 16) :: s).toArray.size < 7 - s.toArray.size
        simp only [List.size_toArray, List.length_cons]
        omega
      · have hn0 : n = 0 := by omega
        have hd0 : decide (0 < n) = false := by simp [hn0]
        rcases Nat.eq_zero_or_pos s.length with hs0 | hs0
        · obtain ⟨hR, h6⟩ := (unhide HST) (.inr hs0)
          have HR := hide hR
          have he : s.isEmpty = true := by cases s with | nil => rfl | cons => simp at hs0
          have HS0 := hide hs0
          have HN0 := hide hn0
          clear hR HST hv hD hn h0 hs0 hn0
          go_wp2_with fail
          have hR' := unhide HR
          rw [show ((n : Int) / 16) = ((n / 16 : Nat) : Int) by omega]
          refine ⟨hR', ?_⟩
          show 7 - (hexc (n % 16) :: s).toArray.size < 7 - s.toArray.size
          simp only [List.size_toArray, List.length_cons]
          omega
        · have he : s.isEmpty = false := by cases s with | nil => simp at hs0 | cons => rfl
          have HN0 := hide hn0
          have hq1 : ¬ (9223372036854775807 < 3 + s.length) := by omega
          have hq2 : ¬ (9223372036854775807 < (wrA s).length + 1) := by simp [wrA]; omega
          have hv0 : hexV 0 s = x := by rw [← hn0]; exact hv
          have CE := hide (fun W hW => esc_made (s := s) (x := x) W hW hs0 hl hD hv0 (unhide HX))
          have CI := hide (fun W hW => inn_made (s := s) (x := x) W hW hs0 hl hD hv0 (unhide HX))
          clear HST hv hD hn h0 hs0 hn0 hv0
          go_wp2_with fail
          refine ((unhide CE) _ (unhide HG1)).mono ?_
          rintro e w2 ⟨⟨A1, c1, rfl⟩, hB⟩
          have hB2 := (unhide HB).trans (hB.mono (unhide HB).size)
          have hX2 := hB2.alloc hB2.size (.cells #[.int .i64 1, .int .i64 ((s.length : Int) + 4), .int .i64 (x : Int), .string ⟨#[]⟩, .slice A1 0 c1] 26)
          have HK2 := hide (Blk.new w2 26 #[.int .i64 1, .int .i64 ((s.length : Int) + 4), .int .i64 (x : Int), .string ⟨#[]⟩, .slice A1 0 c1])
          have HG2 := hide (((unhide HG1).below hB).below ((Below.refl _ w2).alloc (Nat.le_refl _) (.cells #[.int .i64 1, .int .i64 ((s.length : Int) + 4), .int .i64 (x : Int), .string ⟨#[]⟩, .slice A1 0 c1] 26)))
          have HX2 := hide hX2
          clear hX2 hB2 hB CE HB HG1
          generalize hx2 : w2.alloc (.cells #[.int .i64 1, .int .i64 ((s.length : Int) + 4), .int .i64 (x : Int), .string ⟨#[]⟩, .slice A1 0 c1] 26) = X2 at *
          go_wp2_with fail
          refine ((unhide CI) _ (unhide HG2)).mono ?_
          rintro e w3 ⟨⟨A3, c3, rfl⟩, hB⟩
          have hB3 := (unhide HX2).trans (hB.mono (unhide HX2).size)
          have hK3 := ((unhide HK2).below hB (by have := (unhide HK2).lt; simpa using this))
          have HK3 := hide (hK3.alloc (.cells #[.int .i64 1, .int .i64 ((s.length : Int) + 4), .int .i64 (x : Int), .string ⟨#[]⟩, .slice A3 0 c3] 26))
          have HL3 := hide (Blk.new w3 26 #[.int .i64 1, .int .i64 ((s.length : Int) + 4), .int .i64 (x : Int), .string ⟨#[]⟩, .slice A3 0 c3])
          have HB3 := hide (hB3.alloc hB3.size (.cells #[.int .i64 1, .int .i64 ((s.length : Int) + 4), .int .i64 (x : Int), .string ⟨#[]⟩, .slice A3 0 c3] 26))
          obtain ⟨⟨d0, d1, d2, d3, d4⟩, f0, f1, f2, f3, f4⟩ := cells5 (unhide HK3)
          obtain ⟨⟨x0, x1, x2, x3, x4⟩, y0, y1, y2, y3, y4⟩ := cells5 (unhide HL3)
          have hwl : IntKind.i64.wrap ((s.length : Int) + 4) = (s.length : Int) + 4 := Go.Proofs.YtipehpnbfdnehaaGreatDoor.Rs.wrap_id _ (by omega) (by omega)
          clear hK3 hB hB3 HK2 HX2 CI
          go_wp2
          go_ret
          exact ⟨rfl, unhide HB3⟩
  · have e1 : decide (55296 ≤ (x : Int)) = true := by rw [decide_eq_true_eq]; omega
    have e2 : decide ((x : Int) ≤ 57343) = false := by rw [decide_eq_false_iff_not]; omega
    have e3 : decide (1114112 ≤ (x : Int)) = false := by rw [decide_eq_false_iff_not]; omega
    go_enter Tryz.func8, Tryz.ntmps8
    go_wp2_with fail
    refine (unhide CA).mono ?_
    rintro e w1 ⟨rfl, hB⟩
    have HB := hide hB
    have HG1 := hide ((unhide HG).below hB)
    clear hB HG CA
    go_wp2_with fail
    go_loopw [3, 4] (fun v i wr => GRel x w1 v i wr) (fun v _ _ => 7 - szOf v)
    case atStart => exact ⟨x, [], rfl, rfl, rfl, by simp [Digs], by simp, by simp; omega, rfl⟩
    case round =>
      obtain ⟨n, s, rfl, rfl, hv, hD, hl, hn, rfl⟩ := hrel
      go_hideQ
      have HST := hide (fun hc => grel_step (w := wr) hv hD hl hn hc)
      have hn16 : (n : Int) ≤ 16777216 := by
        have : 16 ^ (6 - s.length) ≤ 16 ^ 6 := Nat.pow_le_pow_right (by omega) (by omega)
        omega
      have hm1 : Int.tmod (n : Int) 16 = (n : Int) % 16 := by rw [Int.tmod_eq_emod_of_nonneg (by omega)]
      by_cases h0 : 0 < n
      · have h0' : 0 < (n : Int) := by omega
        obtain ⟨hR, h6⟩ := (unhide HST) (.inl h0)
        have HR := hide hR
        have hd0 : decide (0 < n) = true := decide_eq_true h0
        clear hR HST hv hD hn h0
        go_wp2_with fail
        have hR' := unhide HR
        rw [show ((n : Int) / 16) = ((n / 16 : Nat) : Int) by omega]
        refine ⟨hR', ?_⟩
        show 7 - (hexc (n % 16) :: s).toArray.size < 7 - s.toArray.size
        simp only [List.size_toArray, List.length_cons]
        omega
      · have hn0 : n = 0 := by omega
        have hd0 : decide (0 < n) = false := by simp [hn0]
        rcases Nat.eq_zero_or_pos s.length with hs0 | hs0
        · obtain ⟨hR, h6⟩ := (unhide HST) (.inr hs0)
          have HR := hide hR
          have he : s.isEmpty = true := by cases s with | nil => rfl | cons => simp at hs0
          have HS0 := hide hs0
          have HN0 := hide hn0
          clear hR HST hv hD hn h0 hs0 hn0
          go_wp2_with fail
          have hR' := unhide HR
          rw [show ((n : Int) / 16) = ((n / 16 : Nat) : Int) by omega]
          refine ⟨hR', ?_⟩
          show 7 - (hexc (n % 16) :: s).toArray.size < 7 - s.toArray.size
          simp only [List.size_toArray, List.length_cons]
          omega
        · have he : s.isEmpty = false := by cases s with | nil => simp at hs0 | cons => rfl
          have HN0 := hide hn0
          have hq1 : ¬ (9223372036854775807 < 3 + s.length) := by omega
          have hq2 : ¬ (9223372036854775807 < (wrA s).length + 1) := by simp [wrA]; omega
          have hv0 : hexV 0 s = x := by rw [← hn0]; exact hv
          have CE := hide (fun W hW => esc_made (s := s) (x := x) W hW hs0 hl hD hv0 (unhide HX))
          have CI := hide (fun W hW => inn_made (s := s) (x := x) W hW hs0 hl hD hv0 (unhide HX))
          clear HST hv hD hn h0 hs0 hn0 hv0
          go_wp2_with fail
          refine ((unhide CE) _ (unhide HG1)).mono ?_
          rintro e w2 ⟨⟨A1, c1, rfl⟩, hB⟩
          have hB2 := (unhide HB).trans (hB.mono (unhide HB).size)
          have hX2 := hB2.alloc hB2.size (.cells #[.int .i64 1, .int .i64 ((s.length : Int) + 4), .int .i64 (x : Int), .string ⟨#[]⟩, .slice A1 0 c1] 26)
          have HK2 := hide (Blk.new w2 26 #[.int .i64 1, .int .i64 ((s.length : Int) + 4), .int .i64 (x : Int), .string ⟨#[]⟩, .slice A1 0 c1])
          have HG2 := hide (((unhide HG1).below hB).below ((Below.refl _ w2).alloc (Nat.le_refl _) (.cells #[.int .i64 1, .int .i64 ((s.length : Int) + 4), .int .i64 (x : Int), .string ⟨#[]⟩, .slice A1 0 c1] 26)))
          have HX2 := hide hX2
          clear hX2 hB2 hB CE HB HG1
          generalize hx2 : w2.alloc (.cells #[.int .i64 1, .int .i64 ((s.length : Int) + 4), .int .i64 (x : Int), .string ⟨#[]⟩, .slice A1 0 c1] 26) = X2 at *
          go_wp2_with fail
          refine ((unhide CI) _ (unhide HG2)).mono ?_
          rintro e w3 ⟨⟨A3, c3, rfl⟩, hB⟩
          have hB3 := (unhide HX2).trans (hB.mono (unhide HX2).size)
          have hK3 := ((unhide HK2).below hB (by have := (unhide HK2).lt; simpa using this))
          have HK3 := hide (hK3.alloc (.cells #[.int .i64 1, .int .i64 ((s.length : Int) + 4), .int .i64 (x : Int), .string ⟨#[]⟩, .slice A3 0 c3] 26))
          have HL3 := hide (Blk.new w3 26 #[.int .i64 1, .int .i64 ((s.length : Int) + 4), .int .i64 (x : Int), .string ⟨#[]⟩, .slice A3 0 c3])
          have HB3 := hide (hB3.alloc hB3.size (.cells #[.int .i64 1, .int .i64 ((s.length : Int) + 4), .int .i64 (x : Int), .string ⟨#[]⟩, .slice A3 0 c3] 26))
          obtain ⟨⟨d0, d1, d2, d3, d4⟩, f0, f1, f2, f3, f4⟩ := cells5 (unhide HK3)
          obtain ⟨⟨x0, x1, x2, x3, x4⟩, y0, y1, y2, y3, y4⟩ := cells5 (unhide HL3)
          have hwl : IntKind.i64.wrap ((s.length : Int) + 4) = (s.length : Int) + 4 := Go.Proofs.YtipehpnbfdnehaaGreatDoor.Rs.wrap_id _ (by omega) (by omega)
          clear hK3 hB hB3 HK2 HX2 CI
          go_wp2
          go_ret
          exact ⟨rfl, unhide HB3⟩
  · have e1 : decide (55296 ≤ (x : Int)) = true := by rw [decide_eq_true_eq]; omega
    have e2 : decide ((x : Int) ≤ 57343) = false := by rw [decide_eq_false_iff_not]; omega
    have e3 : decide (1114112 ≤ (x : Int)) = true := by rw [decide_eq_true_eq]; omega
    have e4 : decide ((x : Int) < 1114240) = false := by rw [decide_eq_false_iff_not]; omega
    have e0 : decide ((x : Int) < 0) = false := by rw [decide_eq_false_iff_not]; omega
    have e9 : decide (1114367 < (x : Int)) = false := by rw [decide_eq_false_iff_not]; omega
    have e5 : decide (x < 1114240) = false := by rw [decide_eq_false_iff_not]; omega
    have e10 : decide (1114367 < x) = false := by rw [decide_eq_false_iff_not]; omega
    have e6 : decide (1114112 ≤ x) = true := by rw [decide_eq_true_eq]; omega
    have e7 : decide (55296 ≤ x) = true := by rw [decide_eq_true_eq]; omega
    have e8 : decide (x ≤ 57343) = false := by rw [decide_eq_false_iff_not]; omega
    go_enter Tryz.func8, Tryz.ntmps8
    go_wp2_with fail
    refine (unhide CA).mono ?_
    rintro e w1 ⟨rfl, hB⟩
    have HB := hide hB
    have HG1 := hide ((unhide HG).below hB)
    clear hB HG CA
    go_wp2_with fail
    go_loopw [3, 4] (fun v i wr => GRel x w1 v i wr) (fun v _ _ => 7 - szOf v)
    case atStart => exact ⟨x, [], rfl, rfl, rfl, by simp [Digs], by simp, by simp; omega, rfl⟩
    case round =>
      obtain ⟨n, s, rfl, rfl, hv, hD, hl, hn, rfl⟩ := hrel
      go_hideQ
      have HST := hide (fun hc => grel_step (w := wr) hv hD hl hn hc)
      have hn16 : (n : Int) ≤ 16777216 := by
        have : 16 ^ (6 - s.length) ≤ 16 ^ 6 := Nat.pow_le_pow_right (by omega) (by omega)
        omega
      have hm1 : Int.tmod (n : Int) 16 = (n : Int) % 16 := by rw [Int.tmod_eq_emod_of_nonneg (by omega)]
      by_cases h0 : 0 < n
      · have h0' : 0 < (n : Int) := by omega
        obtain ⟨hR, h6⟩ := (unhide HST) (.inl h0)
        have HR := hide hR
        have hd0 : decide (0 < n) = true := decide_eq_true h0
        clear hR HST hv hD hn h0
        go_wp2_with fail
        have hR' := unhide HR
        rw [show ((n : Int) / 16) = ((n / 16 : Nat) : Int) by omega]
        refine ⟨hR', ?_⟩
        show 7 - (hexc (n % 16) :: s).toArray.size < 7 - s.toArray.size
        simp only [List.size_toArray, List.length_cons]
        omega
      · have hn0 : n = 0 := by omega
        have hd0 : decide (0 < n) = false := by simp [hn0]
        rcases Nat.eq_zero_or_pos s.length with hs0 | hs0
        · obtain ⟨hR, h6⟩ := (unhide HST) (.inr hs0)
          have HR := hide hR
          have he : s.isEmpty = true := by cases s with | nil => rfl | cons => simp at hs0
          have HS0 := hide hs0
          have HN0 := hide hn0
          clear hR HST hv hD hn h0 hs0 hn0
          go_wp2_with fail
          have hR' := unhide HR
          rw [show ((n : Int) / 16) = ((n / 16 : Nat) : Int) by omega]
          refine ⟨hR', ?_⟩
          show 7 - (hexc (n % 16) :: s).toArray.size < 7 - s.toArray.size
          simp only [List.size_toArray, List.length_cons]
          omega
        · have he : s.isEmpty = false := by cases s with | nil => simp at hs0 | cons => rfl
          have HN0 := hide hn0
          have hq1 : ¬ (9223372036854775807 < 3 + s.length) := by omega
          have hq2 : ¬ (9223372036854775807 < (wrA s).length + 1) := by simp [wrA]; omega
          have hv0 : hexV 0 s = x := by rw [← hn0]; exact hv
          have CE := hide (fun W hW => esc_made (s := s) (x := x) W hW hs0 hl hD hv0 (unhide HX))
          have CI := hide (fun W hW => inn_made (s := s) (x := x) W hW hs0 hl hD hv0 (unhide HX))
          clear HST hv hD hn h0 hs0 hn0 hv0
          go_wp2_with fail
          refine ((unhide CE) _ (unhide HG1)).mono ?_
          rintro e w2 ⟨⟨A1, c1, rfl⟩, hB⟩
          have hB2 := (unhide HB).trans (hB.mono (unhide HB).size)
          have hX2 := hB2.alloc hB2.size (.cells #[.int .i64 1, .int .i64 ((s.length : Int) + 4), .int .i64 (x : Int), .string ⟨#[]⟩, .slice A1 0 c1] 26)
          have HK2 := hide (Blk.new w2 26 #[.int .i64 1, .int .i64 ((s.length : Int) + 4), .int .i64 (x : Int), .string ⟨#[]⟩, .slice A1 0 c1])
          have HG2 := hide (((unhide HG1).below hB).below ((Below.refl _ w2).alloc (Nat.le_refl _) (.cells #[.int .i64 1, .int .i64 ((s.length : Int) + 4), .int .i64 (x : Int), .string ⟨#[]⟩, .slice A1 0 c1] 26)))
          have HX2 := hide hX2
          clear hX2 hB2 hB CE HB HG1
          generalize hx2 : w2.alloc (.cells #[.int .i64 1, .int .i64 ((s.length : Int) + 4), .int .i64 (x : Int), .string ⟨#[]⟩, .slice A1 0 c1] 26) = X2 at *
          go_wp2_with fail
          refine ((unhide CI) _ (unhide HG2)).mono ?_
          rintro e w3 ⟨⟨A3, c3, rfl⟩, hB⟩
          have hB3 := (unhide HX2).trans (hB.mono (unhide HX2).size)
          have hK3 := ((unhide HK2).below hB (by have := (unhide HK2).lt; simpa using this))
          have HK3 := hide (hK3.alloc (.cells #[.int .i64 1, .int .i64 ((s.length : Int) + 4), .int .i64 (x : Int), .string ⟨#[]⟩, .slice A3 0 c3] 26))
          have HL3 := hide (Blk.new w3 26 #[.int .i64 1, .int .i64 ((s.length : Int) + 4), .int .i64 (x : Int), .string ⟨#[]⟩, .slice A3 0 c3])
          have HB3 := hide (hB3.alloc hB3.size (.cells #[.int .i64 1, .int .i64 ((s.length : Int) + 4), .int .i64 (x : Int), .string ⟨#[]⟩, .slice A3 0 c3] 26))
          obtain ⟨⟨d0, d1, d2, d3, d4⟩, f0, f1, f2, f3, f4⟩ := cells5 (unhide HK3)
          obtain ⟨⟨x0, x1, x2, x3, x4⟩, y0, y1, y2, y3, y4⟩ := cells5 (unhide HL3)
          have hwl : IntKind.i64.wrap ((s.length : Int) + 4) = (s.length : Int) + 4 := Go.Proofs.YtipehpnbfdnehaaGreatDoor.Rs.wrap_id _ (by omega) (by omega)
          clear hK3 hB hB3 HK2 HX2 CI
          go_wp2
          go_ret
          exact ⟨rfl, unhide HB3⟩
/-! ### any number -/
set_option maxRecDepth 100000 in
set_option maxHeartbeats 4000000 in
theorem walkDigits (x : Int) (w : World) (hG : Gl w) (hx : -9223372036854775808 ≤ x ∧ x ≤ 9223372036854775807) :
    Calls Tryz.prog 8 #[.int .i64 x] w fun e w' => e = .returned (.bool true) ∧ Below w.heap.size w w' := by
  by_cases hs : isS x = true
  · have h0 : 0 ≤ x := by unfold isS at hs; rw [decide_eq_true_eq] at hs; omega
    have := digits_in x.toNat w hG (by rw [show ((x.toNat : Nat) : Int) = x by omega]; exact hs)
    rwa [show ((x.toNat : Nat) : Int) = x by omega] at this
  · have CA := hide (anchor_any w hG)
    unfold isS at hs
    rw [decide_eq_true_eq] at hs
    have hc : x < 0 ∨ 1114367 < x ∨ (55296 ≤ x ∧ x ≤ 57343) ∨ (1114112 ≤ x ∧ x < 1114240) := by omega
    clear hG hx hs
    rcases hc with j1 | j1 | ⟨j1, j2⟩ | ⟨j1, j2⟩
    · have j3 : decide (x < 0) = true := by rw [decide_eq_true_eq]; omega
      go_enter Tryz.func8, Tryz.ntmps8
      go_wp2_with fail
      refine (unhide CA).mono ?_
      rintro e w1 ⟨rfl, hB⟩
      have HB := hide hB
      clear hB CA
      go_wp2
      go_ret
      exact ⟨rfl, unhide HB⟩
    · have j2 : decide (x < 0) = false := by rw [decide_eq_false_iff_not]; omega
      have j3 : decide (1114367 < x) = true := by rw [decide_eq_true_eq]; omega
      go_enter Tryz.func8, Tryz.ntmps8
      go_wp2_with fail
      refine (unhide CA).mono ?_
      rintro e w1 ⟨rfl, hB⟩
      have HB := hide hB
      clear hB CA
      go_wp2
      go_ret
      exact ⟨rfl, unhide HB⟩
    · have j3 : decide (x < 0) = false := by rw [decide_eq_false_iff_not]; omega
      have j4 : decide (1114367 < x) = false := by rw [decide_eq_false_iff_not]; omega
      have j5 : decide (55296 ≤ x) = true := by rw [decide_eq_true_eq]; omega
      have j6 : decide (x ≤ 57343) = true := by rw [decide_eq_true_eq]; omega
      go_enter Tryz.func8, Tryz.ntmps8
      go_wp2_with fail
      refine (unhide CA).mono ?_
      rintro e w1 ⟨rfl, hB⟩
      have HB := hide hB
      clear hB CA
      go_wp2
      go_ret
      exact ⟨rfl, unhide HB⟩
    · have j3 : decide (x < 0) = false := by rw [decide_eq_false_iff_not]; omega
      have j4 : decide (1114367 < x) = false := by rw [decide_eq_false_iff_not]; omega
      have j5 : decide (55296 ≤ x) = true := by rw [decide_eq_true_eq]; omega
      have j6 : decide (x ≤ 57343) = false := by rw [decide_eq_false_iff_not]; omega
      have j7 : decide (1114112 ≤ x) = true := by rw [decide_eq_true_eq]; omega
      have j8 : decide (x < 1114240) = true := by rw [decide_eq_true_eq]; omega
      go_enter Tryz.func8, Tryz.ntmps8
      go_wp2_with fail
      refine (unhide CA).mono ?_
      rintro e w1 ⟨rfl, hB⟩
      have HB := hide hB
      clear hB CA
      go_wp2
      go_ret
      exact ⟨rfl, unhide HB⟩
end Go.Proofs.YtipehpnbfdnehaaGreatDoor.Sc
