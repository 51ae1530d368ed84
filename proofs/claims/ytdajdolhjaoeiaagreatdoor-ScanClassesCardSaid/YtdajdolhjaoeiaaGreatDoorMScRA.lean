/-
  The reference's at (clewref07), walked. Conditions: the bytes lie in memory.
  The reference's find and hex (clewref07), walked. Conditions: none.
  The reference's code (clewref07), walked: a symbol by its number. Conditions: the bytes lie in memory.
-/
import Derived.Test.YtdajdolhjaoeiaaGreatDoorMScB
import Derived.Test.YtdajdolhjaoeiaaGreatDoorMRsCut
import Derived.WalkHide
import Derived.Test.YtdajdolhjaoeiaaGreatDoorMScD
set_option linter.unusedVariables false
set_option linter.unusedSimpArgs false
namespace Go.Proofs.YtdajdolhjaoeiaaGreatDoor.Sc
open Go.RowKit Go.Proofs.YtdajdolhjaoeiaaGreatDoor.Mem
open Go.Proofs.YtdajdolhjaoeiaaGreatDoor.Sy (g g_of g_lt isS)

attribute [local go_sem] Go.Proofs.YtdajdolhjaoeiaaGreatDoor.Rs.run_not_true Go.Proofs.YtdajdolhjaoeiaaGreatDoor.Rs.run_not_false

set_option maxHeartbeats 1000000 in
/-- **the reference's at** -/
theorem rat_any (bs : List UInt8) (A : Option Addr) (cap : Nat) (i : Int) (w : World) (hP : PV bs A cap w) :
    Calls Tryz.prog 36 #[.slice A bs.length cap, .int .i64 i] w fun e w' => e = .returned (.int .u8 (gz bs i : Int)) ∧ w' = w := by
  by_cases h1 : i < 0
  · rw [gz_out (.inl h1)]
    go_enter Tryz.func36, Tryz.ntmps36
    go_wp2
    go_ret
    exact ⟨rfl, rfl⟩
  · by_cases h2 : (bs.length : Int) ≤ i
    · rw [gz_out (.inr h2)]
      have h3 : 0 ≤ i := by omega
      clear h1
      go_enter Tryz.func36, Tryz.ntmps36
      go_wp2
      go_ret
      exact ⟨rfl, rfl⟩
    · obtain ⟨k, rfl⟩ : ∃ k : Nat, i = (k : Int) := ⟨i.toNat, by omega⟩
      have hk : k < bs.length := by omega
      obtain ⟨b, off, rfl, hb, hc⟩ := hP.cell hk
      have c1 := hc k hk
      have hr := hP.room
      have ht := hP.top
      have hki : (k : Int) < (bs.length : Int) := by omega
      rw [gz_nat]
      generalize bs.length = n at *
      generalize g bs k = x at *
      clear hc hP h1 h2
      go_enter Tryz.func36, Tryz.ntmps36
      go_wp2
      go_ret
      exact ⟨rfl, rfl⟩
theorem rat_nat (bs : List UInt8) (A : Option Addr) (cap k : Nat) (w : World) (hP : PV bs A cap w) :
    Calls Tryz.prog 36 #[.slice A bs.length cap, .int .i64 (k : Int)] w fun e w' => e = .returned (.int .u8 (g bs k : Int)) ∧ w' = w := by
  have := rat_any bs A cap (k : Int) w hP
  rwa [gz_nat] at this
theorem rat_e {bs : List UInt8} {A : Option Addr} {cap : Nat} {w : World} (hP : PV bs A cap w) {i : Int} {k c : Nat} (e : i = (k : Int)) (h : g bs k = c) :
    Calls Tryz.prog 36 #[.slice A bs.length cap, .int .i64 i] w fun e w' => e = .returned (.int .u8 (c : Int)) ∧ w' = w := by
  subst e; subst h; exact rat_nat bs A cap k w hP
end Go.Proofs.YtdajdolhjaoeiaaGreatDoor.Sc
set_option linter.unusedVariables false
set_option linter.unusedSimpArgs false
namespace Go.Proofs.YtdajdolhjaoeiaaGreatDoor.Sc
open Go.RowKit Go.Proofs.YtdajdolhjaoeiaaGreatDoor.Mem
open Go.Proofs.YtdajdolhjaoeiaaGreatDoor.Sy (g g_of g_lt isS)
attribute [local go_sem] Go.Proofs.YtdajdolhjaoeiaaGreatDoor.Rs.run_not_true Go.Proofs.YtdajdolhjaoeiaaGreatDoor.Rs.run_not_false

/-! ### where a byte stands -/
def fzF : List UInt8 → Nat → Nat → Int
  | [], _, _ => -1
  | b :: l, c, k => if b.toNat = c then (k : Int) else fzF l c (k + 1)
def fz (l : List UInt8) (c : Nat) : Int := fzF l c 0
theorem fzF_at {l : List UInt8} {c k : Nat} (hk : k < l.length) : fzF (l.drop k) c k = if g l k = c then (k : Int) else fzF (l.drop (k + 1)) c (k + 1) := by
  have hd : l.drop k = l[k] :: l.drop (k + 1) := List.drop_eq_getElem_cons hk
  rw [hd]
  show (if l[k].toNat = c then _ else _) = _
  rw [g_of (List.getElem?_eq_getElem hk)]
theorem fzF_end {l : List UInt8} {c k : Nat} (hk : l.length ≤ k) : fzF (l.drop k) c k = -1 := by
  rw [List.drop_eq_nil_of_le hk]; rfl
theorem idx_txt (l : List UInt8) (k : Nat) (h : k < l.length) (W : World) : (Instr.index 9 (.string ⟨l.toArray⟩) (.int .i64 (k : Int))).run Tryz.prog W = .ok (.int .u8 (g l k : Int)) W := by
  have hsz : (⟨l.toArray⟩ : ByteArray).size = l.length := by show l.toArray.size = _; simp
  rw [run_index_string (P := Tryz.prog) W _ _ _ _ Tryz.underlying9, dif_pos ⟨by omega, by rw [hsz]; omega⟩]
  have : (⟨l.toArray⟩ : ByteArray)[(k : Int).toNat]'(by rw [hsz]; exact h) = l[k] := rfl
  rw [this, g_of (List.getElem?_eq_getElem h)]
def FRel (l : List UInt8) (c : Nat) (w : World) (v : Value) (wr : World) : Prop := ∃ k : Nat, v = .int .i64 (k : Int) ∧ k ≤ l.length ∧ fz l c = fzF (l.drop k) c k ∧ wr = w

set_option maxRecDepth 100000 in
set_option maxHeartbeats 4000000 in
theorem rfind_any (l : List UInt8) (c : Nat) (w : World) (hl : l.length ≤ 64) :
    Calls Tryz.prog 38 #[.string ⟨l.toArray⟩, .int .u8 (c : Int)] w fun e w' => e = .returned (.int .i64 (fz l c)) ∧ w' = w := by
  go_enter Tryz.func38, Tryz.ntmps38
  go_wp2_with fail
  go_loopw [5] (fun v wr => FRel l c w v wr) (fun v _ => l.length - (intOf v).toNat)
  case atStart => exact ⟨0, by simp, Nat.zero_le _, rfl, rfl⟩
  case round =>
    obtain ⟨k, rfl, hk, hf, rfl⟩ := hrel
    go_hideQ
    by_cases hin : k < l.length
    · have ki := idx_txt l k hin
      have hin' : (k : Int) < (l.length : Int) := by omega
      have h1 := fzF_at (c := c) hin
      by_cases hc : g l k = c
      · rw [if_pos hc] at h1
        have HQ := hide (hf.trans h1)
        have e1 : ((g l k : Int) == (c : Int)) = true := by rw [beq_iff_eq]; omega
        clear hf h1 hc hk
        go_wp2
        go_ret
        exact ⟨by rw [unhide HQ]; rfl, rfl⟩
      · rw [if_neg hc] at h1
        have HQ := hide (show FRel l c wr (.int .i64 ((k : Int) + 1)) wr from ⟨k + 1, by simp, hin, hf.trans h1, rfl⟩)
        have e1 : ((g l k : Int) == (c : Int)) = false := by rw [beq_eq_false_iff_ne]; omega
        clear hf h1 hc hk
        go_wp2
        have hR := unhide HQ
        first
          | (refine ⟨⟨_, _, _, _, _, _, _, _, _, _, _, _, _, _, hR, rfl⟩, ?_⟩; simp [intOf]; omega)
          | exact ⟨hR, by simp [intOf]; omega⟩
          | (go_roundw; (case rel => exact hR); (case measure => (simp [intOf]; omega)))
    · have hin' : (l.length : Int) ≤ (k : Int) := by omega
      have HQ := hide (hf.trans (fzF_end (c := c) (by omega : l.length ≤ k)))
      clear hf hk
      go_wp2
      go_ret
      exact ⟨by rw [unhide HQ]; rfl, rfl⟩

/-! ### a hexadecimal digit -/
def lowH : List UInt8 := [48, 49, 50, 51, 52, 53, 54, 55, 56, 57, 97, 98, 99, 100, 101, 102]
def uppH : List UInt8 := [48, 49, 50, 51, 52, 53, 54, 55, 56, 57, 65, 66, 67, 68, 69, 70]
/-- hex, as it is reckoned. -/
def hxz (c : Nat) : Int := match hexD c with | some d => (d : Int) | none => -1
theorem hxz_is : ∀ c : Fin 256, hxz c.val = if fz lowH c.val < 0 then fz uppH c.val else fz lowH c.val := by decide +kernel

set_option maxRecDepth 100000 in
set_option maxHeartbeats 4000000 in
theorem rhex_any (c : Nat) (hc : c < 256) (w : World) :
    Calls Tryz.prog 71 #[.int .u8 (c : Int)] w fun e w' => e = .returned (.int .i64 (hxz c)) ∧ w' = w := by
  have h1 := hxz_is ⟨c, hc⟩
  simp only [] at h1
  have C1 := hide (fun W => rfind_any lowH c W (by decide))
  have C2 := hide (fun W => rfind_any uppH c W (by decide))
  by_cases h : fz lowH c < 0
  · rw [if_pos h] at h1
    have e0 : decide (fz lowH c < 0) = true := decide_eq_true h
    have HQ := hide h1
    clear h1
    generalize fz lowH c = a at *
    generalize fz uppH c = b at *
    go_enter Tryz.func71, Tryz.ntmps71
    go_wp2_with fail
    refine ((unhide C1) _).mono ?_
    rintro e w1 ⟨rfl, hw1⟩
    obtain rfl : _ = w1 := hw1.symm
    go_wp2_with fail
    refine ((unhide C2) _).mono ?_
    rintro e w1 ⟨rfl, hw1⟩
    obtain rfl : _ = w1 := hw1.symm
    go_wp2
    go_ret
    exact ⟨by rw [unhide HQ]; rfl, rfl⟩
  · rw [if_neg h] at h1
    have e0 : decide (fz lowH c < 0) = false := decide_eq_false h
    have HQ := hide h1
    clear h1
    generalize fz lowH c = a at *
    generalize fz uppH c = b at *
    go_enter Tryz.func71, Tryz.ntmps71
    go_wp2_with fail
    refine ((unhide C1) _).mono ?_
    rintro e w1 ⟨rfl, hw1⟩
    obtain rfl : _ = w1 := hw1.symm
    go_wp2
    go_ret
    exact ⟨by rw [unhide HQ]; rfl, rfl⟩
end Go.Proofs.YtdajdolhjaoeiaaGreatDoor.Sc
set_option linter.unusedVariables false
set_option linter.unusedSimpArgs false
namespace Go.Proofs.YtdajdolhjaoeiaaGreatDoor.Sc
open Go.RowKit Go.Proofs.YtdajdolhjaoeiaaGreatDoor.Mem
open Go.Proofs.YtdajdolhjaoeiaaGreatDoor.Sy (g g_of g_lt isS)
attribute [local go_sem] Go.Proofs.YtdajdolhjaoeiaaGreatDoor.Rs.run_not_true Go.Proofs.YtdajdolhjaoeiaaGreatDoor.Rs.run_not_false

/-! ### the reference's items -/
/-- An item and its error, as the reference gives them. -/
def rItV (x : It) : Value := .tuple #[.agg #[.int .i64 (x.kind : Int), .int .i64 (x.to : Int), .int .i64 (x.num : Int), .string ⟨x.rname.toArray⟩, .int .u8 (x.letter : Int), .bool x.turned], .int .i64 (x.eno : Int)]
def GivesRef (x : It) (w : World) (e : Ending) (w' : World) : Prop := e = .returned (rItV x) ∧ Below w.heap.size w w'
theorem build_r0 (w : World) : Sem.run Tryz.prog (Instr.build 31 #[]) w = .ok (.agg #[.int .i64 0, .int .i64 0, .int .i64 0, .string ⟨#[]⟩, .int .u8 0, .bool false]) w := run_build w 31 _ _ (by kernel_rfl)
theorem build_r3 (a b c : Int) (w : World) : Sem.run Tryz.prog (Instr.build 31 #[(0, .int .i64 a), (2, .int .i64 c), (1, .int .i64 b)]) w = .ok (.agg #[.int .i64 a, .int .i64 b, .int .i64 c, .string ⟨#[]⟩, .int .u8 0, .bool false]) w := run_build w 31 _ _ (by kernel_rfl)
attribute [local go_sem] build_r0 build_r3

def CRel (bs : List UInt8) (s M : Nat) (w : World) (v u : Value) (wr : World) : Prop := ∃ j num : Nat, v = .int .i64 (num : Int) ∧ u = .int .i64 (j : Int) ∧ j ≤ M ∧ num < 16 ^ j ∧ hexF bs s M 0 = ((hexF bs (s + j) (M - j) num).1, (hexF bs (s + j) (M - j) num).2 + j) ∧ s + j ≤ bs.length ∧ wr = w
theorem crel_on {bs : List UInt8} {s M j num d : Nat} (hj : j < M) (hn : num < 16 ^ j) (hf : hexF bs s M 0 = ((hexF bs (s + j) (M - j) num).1, (hexF bs (s + j) (M - j) num).2 + j)) (hd : hexD (g bs (s + j)) = some d) (hd16 : d < 16) :
    num * 16 + d < 16 ^ (j + 1) ∧ hexF bs s M 0 = ((hexF bs (s + (j + 1)) (M - (j + 1)) (num * 16 + d)).1, (hexF bs (s + (j + 1)) (M - (j + 1)) (num * 16 + d)).2 + (j + 1)) := by
  refine ⟨by rw [Nat.pow_succ]; omega, ?_⟩
  rw [hf, show M - j = (M - (j + 1)) + 1 by omega, hexF_some _ _ hd, show s + j + 1 = s + (j + 1) by omega, Nat.mul_comm 16 num]
  simp only [Nat.add_assoc, Nat.add_comm 1 j]
theorem crel_end {bs : List UInt8} {s M j num : Nat} (hf : hexF bs s M 0 = ((hexF bs (s + j) (M - j) num).1, (hexF bs (s + j) (M - j) num).2 + j)) (h : j = M ∨ hexD (g bs (s + j)) = none) : hexF bs s M 0 = (num, j) := by
  have e : hexF bs (s + j) (M - j) num = (num, 0) := by
    rcases h with rfl | h
    · rw [Nat.sub_self]; exact hexF_zero _ _ _
    · exact hexF_none _ _ h
  rw [hf, e, Nat.zero_add]
theorem hexD_16 : ∀ c : Fin 256, ∀ d, hexD c.val = some d → d < 16 := by decide +kernel

set_option maxRecDepth 100000 in
set_option maxHeartbeats 4000000 in
theorem rcode_any (bs : List UInt8) (A : Option Addr) (cap k : Nat) (w : World) (hP : PV bs A cap w) (hk : k ≤ bs.length) :
    Calls Tryz.prog 37 #[.slice A bs.length cap, .int .i64 (k : Int)] w (GivesRef (codeP bs k) w) := by
  have hb0 : Below w.heap.size w (w.alloc (.cells #[.int .i64 0, .int .i64 0, .int .i64 0, .string ⟨#[]⟩, .int .u8 0, .bool false] 31)) := (Below.refl w.heap.size w).alloc (Nat.le_refl _) _
  have HP := hide (hP.below hb0)
  have hroom := hP.room
  have htop := hP.top
  have hk0 : (0 : Int) ≤ (k : Int) := by omega
  have hki : (k : Int) ≤ (bs.length : Int) := by omega
  clear hP hb0
  by_cases h1 : g bs k = 123
  · have C1 := hide (rat_e (unhide HP) (i := (k : Int)) (k := k) (c := g bs k) rfl rfl)
    have HQ0 := hide (fun (num n : Nat) (h : hexF bs (k + 1) 6 0 = (num, n)) => (show codeP bs k = if n = 0 ∨ g bs (k + 1 + n) ≠ 125 ∨ isS (num : Int) = false then .err 32 else .lit num (k + 1 + n + 1) by unfold codeP; rw [if_pos h1, h]))
    have e1 : ((g bs k : Int) == 123) = true := by rw [beq_iff_eq]; omega
    have hs : (k + 1) ≤ bs.length := g_in (bs := bs) (k := k) (by omega)
    clear h1
    generalize g bs k = y at *
    go_enter Tryz.func37, Tryz.ntmps37
    go_wp2_with fail
    refine (unhide C1).mono ?_
    rintro e w1 ⟨rfl, rfl⟩
    clear C1
    go_wp2_with fail
    go_loopw [8, 9] (fun v u wr => CRel bs (k + 1) 6 (w.alloc (.cells #[.int .i64 0, .int .i64 0, .int .i64 0, .string ⟨#[]⟩, .int .u8 0, .bool false] 31)) v u wr) (fun _ u _ => 6 - (intOf u).toNat)
    case atStart => exact ⟨0, 0, rfl, rfl, by omega, by simp, by simp, by omega, rfl⟩
    case round =>
      obtain ⟨j, num, rfl, rfl, hj, hn, hf, hsj, rfl⟩ := hrel
      go_hideQ
      obtain ⟨m, hm⟩ : ∃ m, (k + 1) + j = m := ⟨_, rfl⟩
      have hmi : (k : Int) + 1 + (j : Int) = (m : Int) := by omega
      have hmk : (m : Int) ≤ (bs.length : Int) := by omega
      have hnum : (num : Int) ≤ 16777216 := by
        have : 16 ^ j ≤ 16 ^ 6 := Nat.pow_le_pow_right (by omega) (by omega)
        omega
      have hji : (j : Int) ≤ 6 := by omega
      have CA := hide (rat_e (unhide HP) (i := (m : Int)) (k := m) (c := g bs m) rfl rfl)
      have CX := hide (rhex_any (g bs m) (g_lt bs m) (w.alloc (.cells #[.int .i64 0, .int .i64 0, .int .i64 0, .string ⟨#[]⟩, .int .u8 0, .bool false] 31)))
      by_cases hjM : j < 6
      · have d1 : decide ((j : Int) < 6) = true := by rw [decide_eq_true_eq]; omega
        have d2 : decide (j < 6) = true := by rw [decide_eq_true_eq]; omega
        cases hd : hexD (g bs m) with
        | some d =>
          have hd16 := hexD_16 ⟨g bs m, g_lt bs m⟩ d hd
          have hml : (k + 1) + (j + 1) ≤ bs.length := by
            have := g_in (bs := bs) (k := m) (by
              intro h0
              rw [h0, hexD_zero] at hd
              cases hd)
            omega
          have hmlk : (m : Int) + 1 ≤ (bs.length : Int) := by omega
          have h := crel_on hjM hn hf (by rw [hm]; exact hd) hd16
          have HR := hide (show CRel bs (k + 1) 6 (w.alloc (.cells #[.int .i64 0, .int .i64 0, .int .i64 0, .string ⟨#[]⟩, .int .u8 0, .bool false] 31)) (.int .i64 ((num : Int) * 16 + (d : Int))) (.int .i64 ((j : Int) + 1)) (w.alloc (.cells #[.int .i64 0, .int .i64 0, .int .i64 0, .string ⟨#[]⟩, .int .u8 0, .bool false] 31)) from ⟨j + 1, num * 16 + d, by push_cast; rfl, by push_cast; rfl, by omega, h.1, h.2, hml, rfl⟩)
          rw [show hxz (g bs m) = (d : Int) by unfold hxz; rw [hd]] at CX
          have hdi : (d : Int) < 16 := by omega
          have d3 : decide (0 ≤ (d : Int)) = true := by simp
          clear h hd hf hn hm HQ0 hml
          generalize g bs m = x at *
          go_wp2_with fail
          refine (unhide CA).mono ?_
          rintro e w1 ⟨rfl, hw1⟩
          obtain rfl : _ = w1 := hw1.symm
          go_wp2_with fail
          refine (unhide CX).mono ?_
          rintro e w1 ⟨rfl, hw1⟩
          obtain rfl : _ = w1 := hw1.symm
          go_wp2_with fail
          refine (unhide CA).mono ?_
          rintro e w1 ⟨rfl, hw1⟩
          obtain rfl : _ = w1 := hw1.symm
          go_wp2_with fail
          refine (unhide CX).mono ?_
          rintro e w1 ⟨rfl, hw1⟩
          obtain rfl : _ = w1 := hw1.symm
          go_wp2_with fail
          have hR := unhide HR
          exact ⟨hR, by simp [intOf]; omega⟩
        | none =>
          have hQ := (unhide HQ0) _ _ (crel_end hf (.inr (by rw [hm]; exact hd)))
          rw [hm] at hQ
          rw [show hxz (g bs m) = -1 by unfold hxz; rw [hd]] at CX
          clear hf hn hd HQ0
          by_cases h2 : j = 0
          · have HE := hide (hQ.trans (if_pos (.inl h2)))
            have e2 : ((j : Int) == 0) = true := by rw [beq_iff_eq]; omega
            clear hQ hm h2
            go_wp2_with fail
            refine (unhide CA).mono ?_
            rintro e w1 ⟨rfl, hw1⟩
            obtain rfl : _ = w1 := hw1.symm
            go_wp2_with fail
            refine (unhide CX).mono ?_
            rintro e w1 ⟨rfl, hw1⟩
            obtain rfl : _ = w1 := hw1.symm
            go_wp2_with fail
            (try simp only [Exit.inBlock, Exit.then])
            exact bodyPost_ret (results_cell2 rfl _ _ w.heap.size _ _ _ rfl rfl (Blk.new _ _ _) Tryz.underlying31 rfl (by kernel_rfl)) rfl ⟨by rw [unhide HE]; first | rfl | trace_state, (Below.refl _ _).alloc (Nat.le_refl _) _⟩
          · have e2 : ((j : Int) == 0) = false := by rw [beq_eq_false_iff_ne]; omega
            by_cases h3 : g bs m = 125
            · have CA2 := hide (rat_e (unhide HP) (i := (m : Int)) (k := m) (c := 125) rfl h3)
              have hm1 : (m : Int) + 1 ≤ (bs.length : Int) := by have := g_in (bs := bs) (k := m) (by omega); omega
              have CS := hide (Is.refis_any (num : Int) (w.alloc (.cells #[.int .i64 0, .int .i64 0, .int .i64 0, .string ⟨#[]⟩, .int .u8 0, .bool false] 31)))
              cases h4 : isS (num : Int) with
              | false =>
                have HE := hide (hQ.trans (if_pos (.inr (.inr h4))))
                rw [h4] at CS
                clear hQ h2 h3 h4 hm
                generalize g bs m = x at *
                go_wp2_with fail
                refine (unhide CA).mono ?_
                rintro e w1 ⟨rfl, hw1⟩
                obtain rfl : _ = w1 := hw1.symm
                go_wp2_with fail
                refine (unhide CX).mono ?_
                rintro e w1 ⟨rfl, hw1⟩
                obtain rfl : _ = w1 := hw1.symm
                go_wp2_with fail
                refine (unhide CA2).mono ?_
                rintro e w1 ⟨rfl, hw1⟩
                obtain rfl : _ = w1 := hw1.symm
                go_wp2_with fail
                refine (unhide CS).mono ?_
                rintro e w1 ⟨rfl, hw1⟩
                obtain rfl : _ = w1 := hw1.symm
                go_wp2_with fail
                (try simp only [Exit.inBlock, Exit.then])
                exact bodyPost_ret (results_cell2 rfl _ _ w.heap.size _ _ _ rfl rfl (Blk.new _ _ _) Tryz.underlying31 rfl (by kernel_rfl)) rfl ⟨by rw [unhide HE]; first | rfl | trace_state, (Below.refl _ _).alloc (Nat.le_refl _) _⟩
              | true =>
                have HE := hide (hQ.trans (if_neg (by rw [h4]; simp [h2, h3])))
                rw [h4] at CS
                clear hQ h2 h3 h4 hm
                generalize g bs m = x at *
                go_wp2_with fail
                refine (unhide CA).mono ?_
                rintro e w1 ⟨rfl, hw1⟩
                obtain rfl : _ = w1 := hw1.symm
                go_wp2_with fail
                refine (unhide CX).mono ?_
                rintro e w1 ⟨rfl, hw1⟩
                obtain rfl : _ = w1 := hw1.symm
                go_wp2_with fail
                refine (unhide CA2).mono ?_
                rintro e w1 ⟨rfl, hw1⟩
                obtain rfl : _ = w1 := hw1.symm
                go_wp2_with fail
                refine (unhide CS).mono ?_
                rintro e w1 ⟨rfl, hw1⟩
                obtain rfl : _ = w1 := hw1.symm
                go_wp2_with fail
                (try simp only [Exit.inBlock, Exit.then])
                exact bodyPost_ret (results_cell2 rfl _ _ w.heap.size _ _ _ rfl rfl (Blk.new _ _ _) Tryz.underlying31 rfl (by kernel_rfl)) rfl ⟨by rw [unhide HE]; first | rfl | trace_state, (Below.refl _ _).alloc (Nat.le_refl _) _⟩
            · have CA2 := hide (rat_e (unhide HP) (i := (m : Int)) (k := m) (c := g bs m) rfl rfl)
              have e3 : ((g bs m : Int) == 125) = false := by rw [beq_eq_false_iff_ne]; omega
              have e4 : ¬ ((g bs m : Int) = 125) := by omega
              have e5 : ¬ (g bs m = 125) := h3
              have HE := hide (hQ.trans (if_pos (.inr (.inl h3))))
              clear hQ h2 h3 hm
              generalize g bs m = x at *
              go_wp2_with fail
              refine (unhide CA).mono ?_
              rintro e w1 ⟨rfl, hw1⟩
              obtain rfl : _ = w1 := hw1.symm
              go_wp2_with fail
              refine (unhide CX).mono ?_
              rintro e w1 ⟨rfl, hw1⟩
              obtain rfl : _ = w1 := hw1.symm
              go_wp2_with fail
              refine (unhide CA2).mono ?_
              rintro e w1 ⟨rfl, hw1⟩
              obtain rfl : _ = w1 := hw1.symm
              go_wp2_with fail
              (try simp only [Exit.inBlock, Exit.then])
              exact bodyPost_ret (results_cell2 rfl _ _ w.heap.size _ _ _ rfl rfl (Blk.new _ _ _) Tryz.underlying31 rfl (by kernel_rfl)) rfl ⟨by rw [unhide HE]; first | rfl | trace_state, (Below.refl _ _).alloc (Nat.le_refl _) _⟩
      · have d1 : decide ((j : Int) < 6) = false := by rw [decide_eq_false_iff_not]; omega
        have d2 : decide (j < 6) = false := by rw [decide_eq_false_iff_not]; omega
        have hQ := (unhide HQ0) _ _ (crel_end hf (.inl (by omega)))
        rw [hm] at hQ
        clear hf hn HQ0 CA CX
        by_cases h2 : j = 0
        · have HE := hide (hQ.trans (if_pos (.inl h2)))
          have e2 : ((j : Int) == 0) = true := by rw [beq_iff_eq]; omega
          clear hQ hm h2

          go_wp2_with fail
          (try simp only [Exit.inBlock, Exit.then])
          exact bodyPost_ret (results_cell2 rfl _ _ w.heap.size _ _ _ rfl rfl (Blk.new _ _ _) Tryz.underlying31 rfl (by kernel_rfl)) rfl ⟨by rw [unhide HE]; first | rfl | trace_state, (Below.refl _ _).alloc (Nat.le_refl _) _⟩
        · have e2 : ((j : Int) == 0) = false := by rw [beq_eq_false_iff_ne]; omega
          by_cases h3 : g bs m = 125
          · have CA2 := hide (rat_e (unhide HP) (i := (m : Int)) (k := m) (c := 125) rfl h3)
            have hm1 : (m : Int) + 1 ≤ (bs.length : Int) := by have := g_in (bs := bs) (k := m) (by omega); omega
            have CS := hide (Is.refis_any (num : Int) (w.alloc (.cells #[.int .i64 0, .int .i64 0, .int .i64 0, .string ⟨#[]⟩, .int .u8 0, .bool false] 31)))
            cases h4 : isS (num : Int) with
            | false =>
              have HE := hide (hQ.trans (if_pos (.inr (.inr h4))))
              rw [h4] at CS
              clear hQ h2 h3 h4 hm
              generalize g bs m = x at *
              go_wp2_with fail
              refine (unhide CA2).mono ?_
              rintro e w1 ⟨rfl, hw1⟩
              obtain rfl : _ = w1 := hw1.symm
              go_wp2_with fail
              refine (unhide CS).mono ?_
              rintro e w1 ⟨rfl, hw1⟩
              obtain rfl : _ = w1 := hw1.symm
              go_wp2_with fail
              (try simp only [Exit.inBlock, Exit.then])
              exact bodyPost_ret (results_cell2 rfl _ _ w.heap.size _ _ _ rfl rfl (Blk.new _ _ _) Tryz.underlying31 rfl (by kernel_rfl)) rfl ⟨by rw [unhide HE]; first | rfl | trace_state, (Below.refl _ _).alloc (Nat.le_refl _) _⟩
            | true =>
              have HE := hide (hQ.trans (if_neg (by rw [h4]; simp [h2, h3])))
              rw [h4] at CS
              clear hQ h2 h3 h4 hm
              generalize g bs m = x at *
              go_wp2_with fail
              refine (unhide CA2).mono ?_
              rintro e w1 ⟨rfl, hw1⟩
              obtain rfl : _ = w1 := hw1.symm
              go_wp2_with fail
              refine (unhide CS).mono ?_
              rintro e w1 ⟨rfl, hw1⟩
              obtain rfl : _ = w1 := hw1.symm
              go_wp2_with fail
              (try simp only [Exit.inBlock, Exit.then])
              exact bodyPost_ret (results_cell2 rfl _ _ w.heap.size _ _ _ rfl rfl (Blk.new _ _ _) Tryz.underlying31 rfl (by kernel_rfl)) rfl ⟨by rw [unhide HE]; first | rfl | trace_state, (Below.refl _ _).alloc (Nat.le_refl _) _⟩
          · have CA2 := hide (rat_e (unhide HP) (i := (m : Int)) (k := m) (c := g bs m) rfl rfl)
            have e3 : ((g bs m : Int) == 125) = false := by rw [beq_eq_false_iff_ne]; omega
            have e4 : ¬ ((g bs m : Int) = 125) := by omega
            have e5 : ¬ (g bs m = 125) := h3
            have HE := hide (hQ.trans (if_pos (.inr (.inl h3))))
            clear hQ h2 h3 hm
            generalize g bs m = x at *
            go_wp2_with fail
            refine (unhide CA2).mono ?_
            rintro e w1 ⟨rfl, hw1⟩
            obtain rfl : _ = w1 := hw1.symm
            go_wp2_with fail
            (try simp only [Exit.inBlock, Exit.then])
            exact bodyPost_ret (results_cell2 rfl _ _ w.heap.size _ _ _ rfl rfl (Blk.new _ _ _) Tryz.underlying31 rfl (by kernel_rfl)) rfl ⟨by rw [unhide HE]; first | rfl | trace_state, (Below.refl _ _).alloc (Nat.le_refl _) _⟩
  · have C1 := hide (rat_e (unhide HP) (i := (k : Int)) (k := k) (c := g bs k) rfl rfl)
    have HQ0 := hide (fun (num n : Nat) (h : hexF bs k 2 0 = (num, n)) => (show codeP bs k = if n < 2 then .err 32 else .lit num (k + n) by unfold codeP; rw [if_neg h1, h]))
    have e1 : ((g bs k : Int) == 123) = false := by rw [beq_eq_false_iff_ne]; omega
    have hs : k ≤ bs.length := hk
    clear h1
    generalize g bs k = y at *
    go_enter Tryz.func37, Tryz.ntmps37
    go_wp2_with fail
    refine (unhide C1).mono ?_
    rintro e w1 ⟨rfl, rfl⟩
    clear C1
    go_wp2_with fail
    go_loopw [8, 9] (fun v u wr => CRel bs k 2 (w.alloc (.cells #[.int .i64 0, .int .i64 0, .int .i64 0, .string ⟨#[]⟩, .int .u8 0, .bool false] 31)) v u wr) (fun _ u _ => 2 - (intOf u).toNat)
    case atStart => exact ⟨0, 0, rfl, rfl, by omega, by simp, by simp, by omega, rfl⟩
    case round =>
      obtain ⟨j, num, rfl, rfl, hj, hn, hf, hsj, rfl⟩ := hrel
      go_hideQ
      obtain ⟨m, hm⟩ : ∃ m, k + j = m := ⟨_, rfl⟩
      have hmi : (k : Int) + (j : Int) = (m : Int) := by omega
      have hmk : (m : Int) ≤ (bs.length : Int) := by omega
      have hnum : (num : Int) ≤ 16777216 := by
        have : 16 ^ j ≤ 16 ^ 6 := Nat.pow_le_pow_right (by omega) (by omega)
        omega
      have hji : (j : Int) ≤ 2 := by omega
      have CA := hide (rat_e (unhide HP) (i := (m : Int)) (k := m) (c := g bs m) rfl rfl)
      have CX := hide (rhex_any (g bs m) (g_lt bs m) (w.alloc (.cells #[.int .i64 0, .int .i64 0, .int .i64 0, .string ⟨#[]⟩, .int .u8 0, .bool false] 31)))
      by_cases hjM : j < 2
      · have d1 : decide ((j : Int) < 2) = true := by rw [decide_eq_true_eq]; omega
        have d2 : decide (j < 2) = true := by rw [decide_eq_true_eq]; omega
        cases hd : hexD (g bs m) with
        | some d =>
          have hd16 := hexD_16 ⟨g bs m, g_lt bs m⟩ d hd
          have hml : k + (j + 1) ≤ bs.length := by
            have := g_in (bs := bs) (k := m) (by
              intro h0
              rw [h0, hexD_zero] at hd
              cases hd)
            omega
          have hmlk : (m : Int) + 1 ≤ (bs.length : Int) := by omega
          have h := crel_on hjM hn hf (by rw [hm]; exact hd) hd16
          have HR := hide (show CRel bs k 2 (w.alloc (.cells #[.int .i64 0, .int .i64 0, .int .i64 0, .string ⟨#[]⟩, .int .u8 0, .bool false] 31)) (.int .i64 ((num : Int) * 16 + (d : Int))) (.int .i64 ((j : Int) + 1)) (w.alloc (.cells #[.int .i64 0, .int .i64 0, .int .i64 0, .string ⟨#[]⟩, .int .u8 0, .bool false] 31)) from ⟨j + 1, num * 16 + d, by push_cast; rfl, by push_cast; rfl, by omega, h.1, h.2, hml, rfl⟩)
          rw [show hxz (g bs m) = (d : Int) by unfold hxz; rw [hd]] at CX
          have hdi : (d : Int) < 16 := by omega
          have d3 : decide (0 ≤ (d : Int)) = true := by simp
          clear h hd hf hn hm HQ0 hml
          generalize g bs m = x at *
          go_wp2_with fail
          refine (unhide CA).mono ?_
          rintro e w1 ⟨rfl, hw1⟩
          obtain rfl : _ = w1 := hw1.symm
          go_wp2_with fail
          refine (unhide CX).mono ?_
          rintro e w1 ⟨rfl, hw1⟩
          obtain rfl : _ = w1 := hw1.symm
          go_wp2_with fail
          refine (unhide CA).mono ?_
          rintro e w1 ⟨rfl, hw1⟩
          obtain rfl : _ = w1 := hw1.symm
          go_wp2_with fail
          refine (unhide CX).mono ?_
          rintro e w1 ⟨rfl, hw1⟩
          obtain rfl : _ = w1 := hw1.symm
          go_wp2_with fail
          have hR := unhide HR
          exact ⟨hR, by simp [intOf]; omega⟩
        | none =>
          have hQ := (unhide HQ0) _ _ (crel_end hf (.inr (by rw [hm]; exact hd)))
    
          rw [show hxz (g bs m) = -1 by unfold hxz; rw [hd]] at CX
          clear hf hn hd HQ0
          by_cases h2 : j < 2
          · have HE := hide (hQ.trans (if_pos h2))
            have e2 : decide ((j : Int) < 2) = true := by rw [decide_eq_true_eq]; omega
            have e3 : decide (j < 2) = true := by rw [decide_eq_true_eq]; omega
  
  
            clear hQ
            go_wp2_with fail
            refine (unhide CA).mono ?_
            rintro e w1 ⟨rfl, hw1⟩
            obtain rfl : _ = w1 := hw1.symm
            go_wp2_with fail
            refine (unhide CX).mono ?_
            rintro e w1 ⟨rfl, hw1⟩
            obtain rfl : _ = w1 := hw1.symm
            go_wp2_with fail
            (try simp only [Exit.inBlock, Exit.then])
            exact bodyPost_ret (results_cell2 rfl _ _ w.heap.size _ _ _ rfl rfl (Blk.new _ _ _) Tryz.underlying31 rfl (by kernel_rfl)) rfl ⟨by rw [unhide HE]; first | rfl | trace_state, (Below.refl _ _).alloc (Nat.le_refl _) _⟩
          · exact absurd hjM h2
      · have d1 : decide ((j : Int) < 2) = false := by rw [decide_eq_false_iff_not]; omega
        have d2 : decide (j < 2) = false := by rw [decide_eq_false_iff_not]; omega
        have hQ := (unhide HQ0) _ _ (crel_end hf (.inl (by omega)))
  
        clear hf hn HQ0 CA CX
        by_cases h2 : j < 2
        · exact absurd h2 hjM
        · have HE := hide (hQ.trans (if_neg h2))
          have e2 : decide ((j : Int) < 2) = false := by rw [decide_eq_false_iff_not]; omega
          have e3 : decide (j < 2) = false := by rw [decide_eq_false_iff_not]; omega
          have hj2 : j = 2 := by omega
          subst hj2
          clear hQ

          go_wp2_with fail
          (try simp only [Exit.inBlock, Exit.then])
          exact bodyPost_ret (results_cell2 rfl _ _ w.heap.size _ _ _ rfl rfl (Blk.new _ _ _) Tryz.underlying31 rfl (by kernel_rfl)) rfl ⟨by rw [unhide HE]; first | rfl | trace_state, (Below.refl _ _).alloc (Nat.le_refl _) _⟩
end Go.Proofs.YtdajdolhjaoeiaaGreatDoor.Sc
