/-
  Plain numbers: a symbol's bytes are read as that symbol. Condition: the number is a symbol.
-/
import Derived.Test.YtbnjhopodhjdhaaDoorSymEnc
import Derived.Test.YtbnjhopodhjdhaaDoorSymMem
set_option linter.unusedVariables false
set_option linter.unusedSimpArgs false
namespace Go.Proofs.YtbnjhopodhjdhaaDoor.Sy
open Go.Lib Go.RowKit Go.Proofs.YtbnjhopodhjdhaaDoor.Mem

theorem enc_u8 (x : Int) (hs : isS x = true) : (enc x).map u8 = (encZ x).map (Value.int .u8) := by
  unfold enc
  rw [List.map_map]
  apply List.map_congr_left
  intro z hz
  have := encZ_range x hs z hz
  simp only [Function.comp_apply, u8, UInt8.toNat_ofNat', Value.int.injEq, true_and]
  omega
theorem enc_length (x : Int) : (enc x).length = (encZ x).length := by simp [enc]
theorem g_enc (x : Int) (hs : isS x = true) (j : Nat) : g (enc x) j = ((encZ x)[j]?.getD 0).toNat := by
  unfold g enc
  rw [List.getElem?_map]
  cases h : (encZ x)[j]? with
  | none => rfl
  | some z =>
    have := encZ_range x hs z (List.mem_of_getElem? h)
    simp only [Option.map_some, Option.getD_some, UInt8.toNat_ofNat']
    omega
theorem sy_ok' {n a b c d r m : Nat} (h : dec n a b c d = (r, m)) (hm : m ≠ 1 ∨ r ≠ 65533) : sy n a b c d = (r, m) := by
  unfold sy
  rw [h, if_neg (by simp only []; omega)]
theorem at_enc (x : Int) (hs : isS x = true) : at_ (enc x) 0 = (x.toNat, (enc x).length) := by
  have hs' := hs
  unfold isS at hs'
  simp only [decide_eq_true_eq] at hs'
  unfold at_
  rw [enc_length, g_enc x hs, g_enc x hs, g_enc x hs, g_enc x hs]
  obtain ⟨n, rfl⟩ : ∃ n : Nat, x = (n : Int) := ⟨x.toNat, by omega⟩
  by_cases g : 1114112 ≤ (n : Int)
  · have e : encZ (n : Int) = [(n : Int) - 1114112] := by unfold encZ; rw [if_pos g]
    rw [e]
    have h : dec 1 ((n : Int) - 1114112).toNat 0 0 0 = (65533, 1) := by
      unfold dec decodeN
      rw [if_neg (by omega), if_neg (by omega), if_neg (by omega), if_neg (by omega)]
    show sy 1 ((n : Int) - 1114112).toNat 0 0 0 = _
    unfold sy
    rw [h, if_pos ⟨rfl, rfl⟩]
    apply Prod.ext <;> simp only [List.length_cons, List.length_nil] <;> omega
  by_cases g0 : (n : Int) < 128
  · have e : encZ (n : Int) = [(n : Int)] := by unfold encZ; rw [if_neg g, if_pos g0]
    rw [e]
    show sy 1 (n : Int).toNat 0 0 0 = ((n : Int).toNat, 1)
    refine sy_ok' ?_ (by omega)
    unfold dec decodeN
    rw [if_pos (by omega)]
  by_cases g1 : (n : Int) < 2048
  · have e : encZ (n : Int) = [192 + (n : Int) / 64, 128 + (n : Int) % 64] := by unfold encZ; rw [if_neg g, if_neg g0, if_pos g1]
    rw [e]
    show sy 2 (192 + (n : Int) / 64).toNat (128 + (n : Int) % 64).toNat 0 0 = ((n : Int).toNat, 2)
    refine sy_ok' ?_ (by omega)
    unfold dec decodeN
    rw [if_neg (by omega), if_pos (by omega), if_pos (by omega)]
    apply Prod.ext <;> simp only [] <;> omega
  by_cases g2 : (n : Int) < 65536
  · have e : encZ (n : Int) = [224 + (n : Int) / 4096, 128 + (n : Int) / 64 % 64, 128 + (n : Int) % 64] := by unfold encZ; rw [if_neg g, if_neg g0, if_neg g1, if_pos g2]
    rw [e]
    show sy 3 (224 + (n : Int) / 4096).toNat (128 + (n : Int) / 64 % 64).toNat (128 + (n : Int) % 64).toNat 0 = ((n : Int).toNat, 3)
    refine sy_ok' ?_ (by omega)
    unfold dec decodeN
    rw [if_neg (by omega), if_neg (by omega), if_pos (by omega), if_pos (by omega)]
    apply Prod.ext <;> simp only [] <;> omega
  · have e : encZ (n : Int) = [240 + (n : Int) / 262144, 128 + (n : Int) / 4096 % 64, 128 + (n : Int) / 64 % 64, 128 + (n : Int) % 64] := by unfold encZ; rw [if_neg g, if_neg g0, if_neg g1, if_neg g2]
    rw [e]
    show sy 4 (240 + (n : Int) / 262144).toNat (128 + (n : Int) / 4096 % 64).toNat (128 + (n : Int) / 64 % 64).toNat (128 + (n : Int) % 64).toNat = ((n : Int).toNat, 4)
    refine sy_ok' ?_ (by omega)
    unfold dec decodeN
    rw [if_neg (by omega), if_neg (by omega), if_neg (by omega), if_pos (by omega), if_pos (by omega)]
    apply Prod.ext <;> simp only [] <;> omega
end Go.Proofs.YtbnjhopodhjdhaaDoor.Sy
