/-
  The walk of the document's float: the text of a float of 4 or 8 bytes.
-/
import Derived.Test.YtkfmmpolcjbnbaaDoorRfl
import Derived.Test.YtkfmmpolcjbnbaaDoorRqu
namespace Go.Proofs.YtkfmmpolcjbnbaaDoor
open Pl Go.RowKit

theorem and_low (k : Nat) (n c : Int) (h0 : 0 ≤ n) (h1 : n < 18446744073709551616) (hk : k ≤ 63) (hc : c = 2 ^ k - 1) : bits .and .u64 n c = n % 2 ^ k := by
  obtain ⟨m, rfl⟩ := Int.eq_ofNat_of_zero_le h0
  have hp : (2 : Nat) ^ k ≤ 9223372036854775808 := Nat.pow_le_pow_right (by omega) hk
  have hp0 := Nat.two_pow_pos k
  have e : c = ((2 ^ k - 1 : Nat) : Int) := by
    rw [hc, Int.natCast_sub hp0, Int.natCast_pow]; rfl
  rw [e, u64_and_nat m (2 ^ k - 1) (by omega) (by omega), Nat.and_two_pow_sub_one_eq_mod, Int.natCast_emod, Int.natCast_pow]
  rfl

theorem half_bound (F f k : Nat) (h0 : F ≠ 0) (h : F < 18446744073709551616) (hv : F = f * 2 ^ k) : k < 64 ∧ f ≠ 0 ∧ f ≤ F := by
  have hf : f ≠ 0 := fun h => by rw [h, Nat.zero_mul] at hv; exact h0 hv
  have hp := Nat.two_pow_pos k
  have h1 : 2 ^ k ≤ F := by rw [hv]; exact Nat.le_mul_of_pos_left _ (by omega)
  have h2 : f ≤ F := by rw [hv]; exact Nat.le_mul_of_pos_right _ hp
  refine ⟨?_, hf, h2⟩
  rcases Nat.lt_or_ge k 64 with h | h
  · exact h
  · have : 2 ^ 64 ≤ 2 ^ k := Nat.pow_le_pow_right (by decide) h
    have : (2 : Nat) ^ 64 = 18446744073709551616 := rfl
    omega

theorem str5 (sg a c : List UInt8) (b : UInt8) : str sg ++ str a ++ ⟨#[b]⟩ ++ str c = str (sg ++ (a ++ b :: c)) := by
  show str sg ++ str a ++ str [b] ++ str c = _
  rw [str_append, str_append, str_append]
  simp

/-- What is told of a float of 8 bytes. -/
def rf64 (zs : List Int) : List UInt8 :=
  if 9218868437227405312 < (num zs).toNat % 9223372036854775808 then [110, 97, 110, 58] ++ byteL (hexL zs.reverse)
  else if (num zs).toNat / 9223372036854775808 = 1 then 45 :: sizeS ((num zs).toNat % 9223372036854775808) else sizeS ((num zs).toNat % 9223372036854775808)

/-- What is told of a float of 4 bytes. -/
def rf32 (zs : List Int) : List UInt8 :=
  if 2139095040 < (num zs).toNat % 2147483648 then [110, 97, 110, 58] ++ byteL (hexL zs.reverse)
  else if (num zs).toNat / 2147483648 = 1 then 45 :: sizeS32 ((num zs).toNat % 2147483648) else sizeS32 ((num zs).toNat % 2147483648)

end Go.Proofs.YtkfmmpolcjbnbaaDoor
