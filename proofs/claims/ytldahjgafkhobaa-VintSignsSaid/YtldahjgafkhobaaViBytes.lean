/-
  vint.Bytes, vint.Signed, Zig, Zag and the reference's Zag, walked: a number's bytes, in new memory of the call's own. Condition: a number below 2^64.
-/
import Derived.Test.YtldahjgafkhobaaViLen
import Derived.OwnWalk
import Derived.Laws.MakeOwn
import Derived.Laws.AppendOwn
import Derived.Laws.BitsAllLaws
set_option linter.unusedVariables false
set_option linter.unusedSimpArgs false
namespace Go.Proofs.Ytldahjgafkhobaa.Vi
open Go.RowKit Go.Proofs.Ytldahjgafkhobaa.Mem

theorem info_byte : (Try.prog.info? 5).map (fun i => (i.zero, i.size, i.bytes)) = some (some (.int .u8 0), 1, 1) := by kernel_rfl
theorem news_at {w : World} {C : Array Value} {t : TypeId} : ∀ j u, C.toList[j]? = some u → (w.alloc (.cells C t)).cell? ((⟨w.heap.size, 0, none⟩ : Addr).add j) = some u := by
  intro j u hj
  rw [add_flat, Nat.zero_add, World.cell?_alloc_new]
  simpa using hj

/-- a number, shifted by so many sevens -/
theorem run_shr (n k : Nat) (hn : (n : Int) ≤ 18446744073709551615) (hk : k ≤ 9) (W : World) : Sem.run Try.prog (Op.shift .shr .u64 (n : Int) .i64 (7 * (k : Int))) W = .ok (.int .u64 ((n / 128 ^ k : Nat) : Int)) W := by
  have hp : (0 : Int) ≤ 2 ^ min (7 * (k : Int)).toNat IntKind.u64.bits := Int.le_of_lt (Int.pow_pos (by decide))
  have h0 : (0 : Int) ≤ 7 * (k : Int) := by omega
  have e : min (7 * (k : Int)).toNat IntKind.u64.bits = 7 * k := by simp [IntKind.bits]; omega
  have h : Op.shift .shr .u64 (n : Int) .i64 (7 * (k : Int)) = pure (.int .u64 ((n : Int) / 2 ^ min (7 * (k : Int)).toNat IntKind.u64.bits)) := by
    simp [Op.shift, Int.not_lt.mpr h0, Int.fdiv_eq_ediv_of_nonneg _ hp]
  rw [h, e, show ((2 : Int) ^ (7 * k)) = ((128 ^ k : Nat) : Int) by rw [← p128]; simp, ← Int.natCast_ediv]
  rfl
theorem or_goes (q : Nat) : bits .or .u8 ((q : Int) % 256) 128 = ((q % 128 + 128 : Nat) : Int) := by
  have h := u8_or_nat (q % 256) 128 (by omega) (by omega)
  have e : q % 256 ||| 128 = q % 128 + 128 := by
    have : ∀ j : Fin 256, j.val ||| 128 = j.val % 128 + 128 := by decide +kernel
    have := this ⟨q % 256, by omega⟩
    simp only at this
    rw [this]
    omega
  rw [e] at h
  rw [← h]
  congr 1
theorem ret_u {a b : Int} (h : a = b) : Ending.returned (.int .u64 a) = .returned (.int .u64 b) := by rw [h]
/-- what is behind v is a row of the call's own that reads as these bytes -/
def Row (bs : List UInt8) (w : World) (v : Value) (w' : World) : Prop := w'.ownsRow w.heap.size 5 1 v bs.length (bs.map u8) ∧ Below w.heap.size w w'
def Gives (bs : List UInt8) (w : World) (e : Ending) (w' : World) : Prop := ∃ v, e = .returned v ∧ Row bs w v w'
theorem Row.snoc {bs : List UInt8} {w wr w' : World} {v v' : Value} {m : Nat} {o : Obj} (h : Row bs w v wr) (h1 : w'.ownsRow w.heap.size 5 1 v' (bs.length + 1) (bs.map u8 ++ [.int .u8 (m : Int)])) (h2 : (wr.alloc o).grownBy w' v.ownBlock) (hm : m < 256) : Row (bs ++ [UInt8.ofNat m]) w v' w' := by
  have e : (bs ++ [UInt8.ofNat m]).map u8 = bs.map u8 ++ [.int .u8 (m : Int)] := by
    rw [List.map_append, List.map_cons, List.map_nil, u8, ofNat_nat hm]
  have hb : Below w.heap.size w (wr.alloc o) := h.2.alloc h.2.size _
  refine ⟨by rw [e, List.length_append]; exact h1, hb.grown h2 hb.size ?_⟩
  intro k hk
  rcases h.1.2 with ⟨rfl, _⟩ | ⟨g, cap, cur, rfl, hb, _, _⟩
  · simp [Value.ownBlock] at hk
  · obtain rfl : g = k := by simpa [Value.ownBlock] using hk
    exact hb
def BRel (n : Nat) (w : World) (v i : Value) (wr : World) : Prop := ∃ k : Nat, i = .int .i64 k ∧ k + 1 ≤ (enc n).length ∧ Row ((enc n).take k) w v wr

set_option maxRecDepth 100000 in
set_option maxHeartbeats 2000000 in
theorem bytes_any (n : Nat) (hn : (n : Int) ≤ 18446744073709551615) (w : World) : Calls Try.prog 9 #[.int .u64 n] w (Gives (enc n) w) := by
  obtain ⟨i0, hi, hz0, hz1, hz2⟩ := info_parts info_byte
  have hlen : (enc n).length ≤ 10 := enc_ten (by omega)
  have hlp := enc_len_pos n
  have C := hide (size_any n hn w)
  have H0 := hide (show Row ((enc n).take 0) w (.slice none 0 0) w from ⟨by simpa using World.ownsRow_nil w _ _ _, Below.refl _ _⟩)
  obtain ⟨l, hl⟩ : ∃ l, (enc n).length = l + 1 := ⟨(enc n).length - 1, by omega⟩
  have HL := hide hl
  rw [hl] at C hlen hlp
  clear hl hlp
  go_enter Try.func9, Try.ntmps9
  go_wp2_with fail
  refine (unhide C).mono ?_
  rintro e w1 ⟨rfl, rfl⟩
  clear C
  have m1 : i0.bytes * (l + 1) ≤ 281474976710656 := by rw [hz2]; omega
  have m2 : l + 1 ≤ maxLen := by unfold maxLen; omega
  go_wp2_with (at_make; refine wpList_make_own _ rfl _ _ 23 rfl w1.heap.size 5 i0 (.int .u8 0) 1 Try.underlying23 hi hz0 hz1 _ _ _ (l + 1) rfl rfl (by omega) m1 m2 (Nat.le_refl _) ?_; intro w2 hv2 hg2)
  have H2 := hide (show Row ((enc n).take 0) w1 (.slice (some ⟨w1.heap.size, 0, none⟩) 0 (l + 1)) w2 from ⟨by simpa using hv2, below_iff.2 hg2⟩)
  clear hv2 hg2 m1 m2
  go_loopw [4, 13] (fun v i wr => BRel n w1 v i wr) (fun _ i _ => l - (intOf i).toNat)
  case atStart => exact ⟨0, rfl, by have := unhide HL; omega, unhide H2⟩
  case round =>
    obtain ⟨k, rfl, hk, hrow⟩ := hrel
    have hk2 : k ≤ l := by have := unhide HL; omega
    have HR := hide hrow
    clear hk hrow
    by_cases hlt : k < l
    · have hlt' : (k : Int) < (l : Int) := by omega
      obtain ⟨q, hq⟩ : ∃ q, n / 128 ^ k = q := ⟨_, rfl⟩
      obtain ⟨m, hm⟩ : ∃ m, q % 128 + 128 = m := ⟨_, rfl⟩
      have hsh := fun W => run_shr n k hn (by omega) W
      have hor := or_goes q
      rw [hq] at hsh
      rw [hm] at hor
      have hm1 : (m : Int) < 256 := by omega
      have HQ := hide hq
      have HM := hide hm
      clear hq hm
      have hlk : ((enc n).take k).length = k := by rw [List.length_take, unhide HL]; omega
      have HO := hide (unhide HR).1
      rw [hlk] at HO
      have HK := hide hlk
      have hmx : k + 1 ≤ maxLen := by unfold maxLen; omega
      have hbz : w1.heap.size ≤ wr.heap.size := (unhide HR).2.size
      clear hlk
      go_wp2_with (at_builtin; refine wpList_append_own _ rfl _ _ 23 rfl w1.heap.size 5 i0 (.int .u8 0) 1 1 Try.underlying23 hi hz0 hz1 hz2 rfl (by decide) _ _ _ rfl ((unhide HO).alloc _) ⟨wr.heap.size, 0, none⟩ 1 1 [.int .u8 m] rfl rfl news_at (by simp [Value.oneCell']) hmx (by omega) (by rw [World.size_alloc]; omega) ?_; intro v' w3 hown' hgrow hor2)
      clear hor hsh hor2
      go_roundw
      case rel =>
        have hg := enc_get k n (by have := unhide HL; omega)
        rw [unhide HQ, unhide HM] at hg
        have h1 := hown'
        have ht : (enc n).take (k + 1) = (enc n).take k ++ [UInt8.ofNat m] := by rw [List.take_add_one, hg]; rfl
        refine ⟨k + 1, by go_num, by have := unhide HL; omega, ?_⟩
        rw [ht]
        exact (unhide HR).snoc (by rw [unhide HK]; exact h1) hgrow (by omega)
      case measure => simp [intOf]; omega
    · obtain rfl : k = l := by omega
      have hlt' : (k : Int) ≤ (k : Int) := by omega
      obtain ⟨q, hq⟩ : ∃ q, n / 128 ^ k = q := ⟨_, rfl⟩
      have hla := enc_last k n (unhide HL).symm
      rw [hq] at hla
      have hsh := fun W => run_shr n k hn (by omega) W
      rw [hq] at hsh
      have hq1 : (q : Int) < 128 := by omega
      have HQ := hide hla.1
      have HR2 := hide (unhide HR)
      clear hq hla
      have hlk : ((enc n).take k).length = k := by rw [List.length_take, unhide HL]; omega
      have HO := hide (unhide HR).1
      rw [hlk] at HO
      have HK := hide hlk
      have hmx : k + 1 ≤ maxLen := by unfold maxLen; omega
      have hbz : w1.heap.size ≤ wr.heap.size := (unhide HR).2.size
      clear hlk
      go_wp2_with (at_builtin; refine wpList_append_own _ rfl _ _ 23 rfl w1.heap.size 5 i0 (.int .u8 0) 1 1 Try.underlying23 hi hz0 hz1 hz2 rfl (by decide) _ _ _ rfl ((unhide HO).alloc _) ⟨wr.heap.size, 0, none⟩ 1 1 [.int .u8 q] rfl rfl news_at (by simp [Value.oneCell']) hmx (by omega) (by rw [World.size_alloc]; omega) ?_; intro v' w3 hown' hgrow hor2)
      clear hor2 hsh
      go_ret
      refine ⟨_, rfl, ?_⟩
      have ht : enc n = (enc n).take k ++ [UInt8.ofNat q] := by
        have h := List.take_add_one (l := enc n) (i := k)
        rw [unhide HQ, List.take_of_length_le (by rw [unhide HL]; omega)] at h
        exact h
      rw [ht]
      exact (unhide HR).snoc (by rw [unhide HK]; exact hown') hgrow (by omega)

set_option maxHeartbeats 1000000 in
theorem zig_any (n : Int) (h0 : -9223372036854775808 ≤ n) (h1 : n ≤ 9223372036854775807) (w : World) : Calls Try.prog 15 #[.int .i64 n] w fun e w' => e = .returned (.int .u64 (zig n : Nat)) ∧ w' = w := by
  have HZ := hide (show (zig n : Int) = if 0 ≤ n then 2 * n else -2 * n - 1 by unfold zig; split <;> omega)
  by_cases hn : n < 0
  · go_enter Try.func15, Try.ntmps15
    go_wp2
    go_ret
    refine ⟨?_, rfl⟩
    rw [unhide HZ, if_neg (by omega)]
    refine ret_u ?_
    omega
  · have hn' : 0 ≤ n := by omega
    go_enter Try.func15, Try.ntmps15
    go_wp2
    go_ret
    refine ⟨?_, rfl⟩
    rw [unhide HZ, if_pos hn']
    refine ret_u ?_
    omega
set_option maxHeartbeats 1000000 in
theorem zag_any (u : Nat) (h1 : (u : Int) ≤ 18446744073709551615) (w : World) : Calls Try.prog 14 #[.int .u64 u] w fun e w' => e = .returned (.int .i64 (zag u)) ∧ w' = w := by
  by_cases hn : (u : Int) % 2 = 0
  · have h3 : ((u : Int) % 2 != 0) = false := by simp [hn]
    have HN := hide hn
    clear hn
    go_enter Try.func14, Try.ntmps14
    go_wp2
    go_ret
    refine ⟨ret_i ?_, rfl⟩
    have := unhide HN
    unfold zag
    rw [if_pos (by omega)]
    omega
  · have h3 : ((u : Int) % 2 != 0) = true := by simp [hn]
    have HN := hide hn
    clear hn
    go_enter Try.func14, Try.ntmps14
    go_wp2
    go_ret
    refine ⟨ret_i ?_, rfl⟩
    have := unhide HN
    unfold zag
    rw [if_neg (by omega)]
    omega
set_option maxHeartbeats 1000000 in
theorem refZag_any (u : Nat) (h1 : (u : Int) ≤ 18446744073709551615) (w : World) : Calls Try.prog 16 #[.int .u64 u] w fun e w' => e = .returned (.int .i64 (zag u)) ∧ w' = w := by
  by_cases hn : (u : Int) % 2 = 0
  · have h3 : ((u : Int) % 2 == 0) = true := by simp [hn]
    have HN := hide hn
    clear hn
    go_enter Try.func16, Try.ntmps16
    go_wp2
    go_ret
    refine ⟨ret_i ?_, rfl⟩
    have := unhide HN
    unfold zag
    rw [if_pos (by omega)]
    omega
  · have h3 : ((u : Int) % 2 == 0) = false := by simp [hn]
    have HN := hide hn
    clear hn
    go_enter Try.func16, Try.ntmps16
    go_wp2
    go_ret
    refine ⟨ret_i ?_, rfl⟩
    have := unhide HN
    unfold zag
    rw [if_neg (by omega)]
    omega
set_option maxHeartbeats 1000000 in
theorem signed_any (n : Int) (h0 : -9223372036854775808 ≤ n) (h1 : n ≤ 9223372036854775807) (w : World) : Calls Try.prog 13 #[.int .i64 n] w (Gives (enc (zig n)) w) := by
  have hz := zig_lt h0 h1
  have C := hide (bytes_any (zig n) (by omega) w)
  have D := hide (zig_any n h0 h1 w)
  clear hz
  go_enter Try.func13, Try.ntmps13
  go_wp2_with fail
  refine (unhide D).mono ?_
  rintro e w1 ⟨rfl, rfl⟩
  clear D
  go_wp2_with fail
  refine (unhide C).mono ?_
  rintro e w2 ⟨v, rfl, hv⟩
  have HV := hide hv
  clear C hv
  go_wp2
  go_ret
  exact ⟨_, rfl, unhide HV⟩
theorem own_slice {w : World} {base e size n : Nat} {v : Value} {xs : List Value} (h : w.ownsRow base e size v n xs) :
    ∃ A c, v = .slice A n c ∧ n ≤ c ∧ c ≤ 9223372036854775807 ∧ Reads w w.heap.size size A n xs := by
  rcases h.2 with ⟨rfl, rfl⟩ | ⟨g, cap, cur, rfl, _, _, h1, h2, _⟩
  · exact ⟨none, 0, rfl, Nat.le_refl _, by omega, h.1, fun hn => by omega⟩
  · exact ⟨_, cap, rfl, h1, by unfold maxLen at h2; omega, Reads.of_own h⟩
theorem row_lit (w : World) (m : Nat) (hm : m < 256) : Row [UInt8.ofNat m] w (.slice (some ⟨w.heap.size, 0, none⟩) 1 1) (w.alloc (.cells #[.int .u8 (m : Int)] 5)) := by
  refine ⟨?_, (Below.refl _ _).alloc (Nat.le_refl _) _⟩
  have h := World.ownsRow_lit (base := w.heap.size) (e := 5) (size := 1) w #[.int .u8 (m : Int)] 1 (Nat.le_refl _) (by unfold maxLen; omega) (by simp)
  simpa [u8, ofNat_nat hm] using h
theorem Row.kept {bs : List UInt8} {w wr w' : World} {v : Value} (h : Row bs w v wr) (hb : Below wr.heap.size wr w') : Row bs w v w' := by
  refine ⟨h.1.kept (below_iff.1 hb) ?_, h.2.trans (hb.mono h.2.size)⟩
  rcases h.1.2 with ⟨rfl, _⟩ | ⟨g, cap, cur, rfl, _⟩
  · exact .inl rfl
  · exact .inr (by simp [Value.ownBlock])
theorem Row.app {bs cs : List UInt8} {w wr w' : World} {v v' : Value} (h : Row bs w v wr) (h1 : w'.ownsRow w.heap.size 5 1 v' (bs.length + cs.length) (bs.map u8 ++ cs.map u8)) (h2 : wr.grownBy w' v.ownBlock) : Row (bs ++ cs) w v' w' := by
  refine ⟨by simpa using h1, h.2.grown h2 h.2.size ?_⟩
  intro k hk
  rcases h.1.2 with ⟨rfl, _⟩ | ⟨g, cap, cur, rfl, hb, _, _⟩
  · simp [Value.ownBlock] at hk
  · obtain rfl : g = k := by simpa [Value.ownBlock] using hk
    exact hb

set_option maxRecDepth 100000 in
set_option maxHeartbeats 2000000 in
theorem refBytes_any (k : Nat) : ∀ (n : Nat) (w : World), n ≤ k → (n : Int) ≤ 18446744073709551615 → Calls Try.prog 11 #[.int .u64 n] w (Gives (enc n) w) := by
  induction k with
  | zero =>
    intro n w hk hn
    have hlt : (n : Int) < 128 := by omega
    have HR := hide (row_lit w n (by omega))
    have HE := hide (enc_lt (n := n) (by omega))
    clear hk
    go_enter Try.func11, Try.ntmps11
    go_wp2_with fail
    go_ret
    exact ⟨_, rfl, by rw [unhide HE]; exact unhide HR⟩
  | succ k ih =>
    intro n w hk hn
    by_cases hlt : (n : Int) < 128
    · have HR := hide (row_lit w n (by omega))
      have HE := hide (enc_lt (n := n) (by omega))
      clear hk ih
      go_enter Try.func11, Try.ntmps11
      go_wp2_with fail
      go_ret
      exact ⟨_, rfl, by rw [unhide HE]; exact unhide HR⟩
    · obtain ⟨i0, hi, hz0, hz1, hz2⟩ := info_parts info_byte
      have hge : (128 : Int) ≤ n := by omega
      have HR := hide (row_lit w (n % 128 + 128) (by omega))
      have HE := hide (enc_ge (n := n) (by omega))
      have hl2 : (enc (n / 128)).length ≤ 10 := enc_ten (by omega)
      obtain ⟨q, hq⟩ : ∃ q, n / 128 = q := ⟨_, rfl⟩
      have hqd : (n : Int) / 128 = q := by omega
      have ihq := hide (fun W => ih q W (by omega) (by omega))
      rw [hq] at HE hl2
      clear hk ih hlt hq
      go_enter Try.func11, Try.ntmps11
      go_wp2_with fail
      refine (unhide ihq _).mono ?_
      rintro e w1 ⟨v1, rfl, hv1⟩
      obtain ⟨A1, c1, rfl, -, -, hr1⟩ := own_slice hv1.1
      have hr2 := unhide HR
      have hsz := hr2.2.size
      have HK := hide (hr2.kept hv1.2)
      have hbz := (unhide HK).2.size
      have HON := hide (show w1.ownsRow w.heap.size 5 1 (.slice (some ⟨w.heap.size, 0, none⟩) 1 1) 1 ([UInt8.ofNat (n % 128 + 128)].map u8) from (unhide HK).1)
      have h1c : ∀ u ∈ (enc q).map u8, u.oneCell' = true := by intro u hu; obtain ⟨b, _, rfl⟩ := List.mem_map.1 hu; rfl
      have hmx : 1 + (enc q).length ≤ maxLen := by unfold maxLen; omega
      have HR1 := hide hr1
      clear hqd hv1 hr2 hr1 hsz
      go_wp2_with (at_builtin; refine wpList_append_any _ rfl (.tmp 12) (.tmp 15) 23 rfl w.heap.size 5 i0 (.int .u8 0) 1 1 Try.underlying23 hi hz0 hz1 hz2 rfl (by decide) _ _ _ rfl (unhide HON) _ _ _ _ _ rfl (unhide HR1) h1c hmx (by omega) hbz ?_; intro v2 w2 hown2 hg2 hn2)
      go_ret
      refine ⟨_, rfl, ?_⟩
      rw [unhide HE]
      exact (unhide HK).app hown2 hg2
end Go.Proofs.Ytldahjgafkhobaa.Vi
