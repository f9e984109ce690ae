/-
  Plain facts for TypesWhole: the texts of numbers, and numbers with a sign, there and back.
-/
import Derived.Test.YtndogfemnpgfoaaDoorWhl1
import Derived.Test.YtndogfemnpgfoaaDoorTxt
namespace Go.Proofs.YtndogfemnpgfoaaDoor
open Pl Go.RowKit

theorem text_int (t : Int) (M s : Nat) (h1 : 1 ≤ s) (hs : sizeN t = (s : Int)) (hk : kindN t = 2 ∨ kindN t = 3) (hM : M < 2 ^ (8 * s)) :
    txE t (bytesL (M : Int) s) = 0 ∧ num (bytesL (M : Int) s) = (M : Int) ∧ (kindN t = 2 → txS t (bytesL (M : Int) s) = Lib.itoa (sgN s (M : Int))) ∧ (kindN t = 3 → txS t (bytesL (M : Int) s) = Lib.decDigits M) := by
  have hn : num (bytesL (M : Int) s) = (M : Int) := by rw [num_bytes, Nat.mod_eq_of_lt hM]
  have hl := bytesL_length (M : Int) s
  have c0 : cbN t (bytesL (M : Int) s) = 0 := by
    unfold cbN
    rw [hl, hs, if_neg (by omega), if_neg (show ¬ (if (s : Int) = 0 then 4096 else (s : Int)) < (s : Int) by rw [if_neg (by omega)]; omega), if_neg (by omega), if_neg (by omega), if_neg (by omega)]
  have k0 : ¬ kindN t = 0 := by omega
  have TN := textN_kind t (bytesL (M : Int) s)
  refine ⟨by unfold txE; rw [if_neg k0, if_neg (by simp [c0])], hn, fun k => ?_, fun k => ?_⟩
  · unfold txS; rw [if_neg k0, if_neg (by simp [c0]), TN.2.1 k, hl, hn]
  · unfold txS; rw [if_neg k0, if_neg (by simp [c0]), TN.2.2.1 k, hn, Int.toNat_natCast]

theorem w64u (x : Int) : wrap64 (IntKind.u64.wrap x) = wrap64 x := by
  simp only [wrap64, IntKind.wrap_u64]
  omega
theorem dec_length (u : Nat) (h : u < 18446744073709551616) : (Lib.decDigits u).length ≤ 20 := by
  have := dec_len u h
  change (Lib.decDigits u).toArray.size ≤ 20 at this
  rwa [List.size_toArray] at this
theorem dec_str (u : Nat) (h : u < 18446744073709551616) : (str (Lib.decDigits u)).size ≤ 20 := dec_len u h
theorem itoa_length (n : Int) (h0 : -9223372036854775808 ≤ n) (h1 : n ≤ 9223372036854775807) : (Lib.itoa n).length ≤ 21 := by
  have := itoa_len n h0 h1
  change (Lib.itoa n).toArray.size ≤ 21 at this
  rwa [List.size_toArray] at this

theorem int_back (t : Int) (M s : Nat) (h1 : 1 ≤ s) (h8 : s ≤ 8) (hs : sizeN t = (s : Int)) (hk : kindN t = 2) (hM : M < 2 ^ (8 * s)) :
    intV t (Lib.itoa (sgN s (M : Int))) = some (bytesL (M : Int) s) ∧ intV t (Lib.decDigits (2 ^ (8 * s - 1))) = none ∧ intV t (45 :: Lib.decDigits (2 ^ (8 * s - 1) + 1)) = none := by
  have hp : 2 ^ (8 * s) = 2 * 2 ^ (8 * s - 1) := by rw [← Nat.pow_succ']; congr 1; omega
  have hp64 : 2 ^ (8 * s) ≤ 18446744073709551616 := Nat.pow_le_pow_right (by decide) (by omega : 8 * s ≤ 64)
  have hpos := Nat.two_pow_pos (8 * s - 1)
  unfold intV
  rw [if_pos hk, if_pos hk, if_pos hk, hs, Int.toNat_natCast, sgnV_pos, sgnV_neg _ _ _ (by omega), if_neg (by omega), if_neg (by omega)]
  refine ⟨?_, rfl, rfl⟩
  unfold sgN
  have e1 : (2 : Int) ^ (8 * s - 1) = ((2 ^ (8 * s - 1) : Nat) : Int) := (Int.natCast_pow 2 _).symm
  have e2 : (2 : Int) ^ (8 * s) = ((2 ^ (8 * s) : Nat) : Int) := (Int.natCast_pow 2 _).symm
  rw [e1, e2]
  by_cases h : (M : Int) < ((2 ^ (8 * s - 1) : Nat) : Int)
  · rw [if_pos h, Lib.itoa_nonneg, sgnV_pos, if_pos (by omega)]
    rfl
  · rw [if_neg h]
    have hu : (M : Int) - ((2 ^ (8 * s) : Nat) : Int) = -((2 ^ (8 * s) - M : Nat) : Int) := by omega
    rw [hu, Lib.itoa_neg _ (by omega), sgnV_neg _ _ _ (by omega), if_pos (by omega)]
    show some (bytesL ((18446744073709551616 - (2 ^ (8 * s) - M) : Nat) : Int) s) = _
    congr 1
    refine bytes_mod _ M s ?_
    obtain ⟨c, hc⟩ : ∃ c, 18446744073709551616 = c * 2 ^ (8 * s) := ⟨2 ^ (64 - 8 * s), by rw [← Nat.pow_add, show 64 - 8 * s + 8 * s = 64 from by omega]⟩
    have hc1 : 1 ≤ c := by
      rcases Nat.eq_zero_or_pos c with h | h
      · rw [h] at hc; simp at hc
      · exact h
    rw [show 18446744073709551616 - (2 ^ (8 * s) - M) = M + (c - 1) * 2 ^ (8 * s) from by
      rw [Nat.sub_mul, Nat.one_mul, hc]
      have : 2 ^ (8 * s) ≤ c * 2 ^ (8 * s) := Nat.le_mul_of_pos_left _ hc1
      omega, Nat.add_mul_mod_self_right]
end Go.Proofs.YtndogfemnpgfoaaDoor
