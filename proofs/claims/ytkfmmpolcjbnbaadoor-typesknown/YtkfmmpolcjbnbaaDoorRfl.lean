/-
  The walk of the document's float: the text of a float of 4 or 8 bytes.
-/
import Derived.Test.YtkfmmpolcjbnbaaDoorRhx
import Derived.Test.YtkfmmpolcjbnbaaDoorWide
namespace Go.Proofs.YtkfmmpolcjbnbaaDoor
open Pl Go.RowKit

/-- Odd numbers times powers of 2 are told apart. -/
theorem odd_unique : ∀ (a b M N : Nat), M % 2 = 1 → N % 2 = 1 → M * 2 ^ a = N * 2 ^ b → M = N ∧ a = b
  | 0, 0, M, N, _, _, h => ⟨by simpa using h, rfl⟩
  | 0, b + 1, M, N, hM, _, h => by rw [Nat.pow_succ, ← Nat.mul_assoc] at h; simp at h; omega
  | a + 1, 0, M, N, _, hN, h => by rw [Nat.pow_succ, ← Nat.mul_assoc] at h; simp at h; omega
  | a + 1, b + 1, M, N, hM, hN, h => by
    rw [Nat.pow_succ, Nat.pow_succ, ← Nat.mul_assoc, ← Nat.mul_assoc] at h
    have := odd_unique a b M N hM hN (by omega)
    omega
theorem odd_parts (m : Nat) (h0 : m ≠ 0) (h : m < 18446744073709551616) : m = m / 2 ^ Lib.ctz 64 m * 2 ^ Lib.ctz 64 m ∧ (m / 2 ^ Lib.ctz 64 m) % 2 = 1 ∧ Lib.ctz 64 m < 64 := by
  obtain ⟨_, hz⟩ := Lib.lowest_bit 64 m h0 h
  obtain ⟨q, hq, _⟩ := Lib.ctzFrom_spec 64 m (by omega) h
  have hc : Lib.ctz 64 m = Lib.ctzFrom 64 m := by unfold Lib.ctz; rw [if_neg h0]
  rw [← hc] at hq
  have hp : 0 < 2 ^ Lib.ctz 64 m := Nat.two_pow_pos _
  have hM : m / 2 ^ Lib.ctz 64 m = 2 * q + 1 := by
    conv => lhs; arg 1; rw [hq]
    rw [Nat.mul_comm]; exact Nat.mul_div_cancel _ hp
  refine ⟨?_, by omega, hz⟩
  rw [hM, Nat.mul_comm]
  exact hq
/-- The text of m times 2 to the e hangs on that number alone. -/
theorem oddS_same (m m' : Nat) (k k' : Nat) (e : Int) (h0 : m ≠ 0) (h0' : m' ≠ 0) (h : m < 18446744073709551616) (h' : m' < 18446744073709551616) (hv : m * 2 ^ k = m' * 2 ^ k') : oddS m (e + (k : Int)) = oddS m' (e + (k' : Int)) := by
  obtain ⟨p1, p2, _⟩ := odd_parts m h0 h
  obtain ⟨q1, q2, _⟩ := odd_parts m' h0' h'
  have := odd_unique (Lib.ctz 64 m + k) (Lib.ctz 64 m' + k') (m / 2 ^ Lib.ctz 64 m) (m' / 2 ^ Lib.ctz 64 m') p2 q2 (by
    rw [Nat.pow_add, Nat.pow_add, ← Nat.mul_assoc, ← Nat.mul_assoc, ← p1, ← q1]; exact hv)
  unfold oddS
  rw [this.1]
  congr 3
  omega
/-- .. and a number that is halved so often that it is odd is that one. -/
theorem oddS_of (F f k : Nat) (e : Int) (h0 : F ≠ 0) (h : F < 18446744073709551616) (hv : F = f * 2 ^ k) (ho : f % 2 = 1) : oddS F e = Lib.decDigits f ++ (112 :: Lib.itoa (e + (k : Int))) := by
  obtain ⟨p1, p2, _⟩ := odd_parts F h0 h
  have := odd_unique (Lib.ctz 64 F) k (F / 2 ^ Lib.ctz 64 F) f p2 ho (by rw [← p1]; exact hv)
  unfold oddS
  rw [this.1, this.2]

/-- The text of a float of 32 bits without its sign, no NaN. -/
def sizeS32 (r : Nat) : List UInt8 :=
  if r = 2139095040 then [105, 110, 102] else if r = 0 then [48, 112, 48]
  else if r < 8388608 then oddS r (-149) else oddS (8388608 + r % 8388608) (-149 + (r : Int) / 8388608 - 1)

theorem fval_pos (B r : Nat) (hB : 1 < B) : fval B r = 0 ↔ r = 0 := by
  have h := fval_eq B r 0 hB
  rw [fval_zero B hB] at h
  exact h

/-- A float of 32 bits has the text that it has as one of 64. -/
theorem wide_text (n X : Nat) (h : WideWord n X) (hn : n % 2147483648 ≤ 2139095040) : X / 9223372036854775808 = n / 2147483648 ∧ X % 9223372036854775808 ≤ 9218868437227405312 ∧ sizeS (X % 9223372036854775808) = sizeS32 (n % 2147483648) := by
  obtain ⟨R, rfl, hc⟩ := h
  have hR : R ≤ 9218868437227405312 := by omega
  have e1 : (n / 2147483648 * 9223372036854775808 + R) % 9223372036854775808 = R := by omega
  rw [e1]
  refine ⟨by clear hc hn; omega, hR, ?_⟩
  generalize n % 2147483648 = r at *
  rcases hc with ⟨c1, c2, c3⟩ | ⟨c1, c2⟩ | ⟨c1, c2⟩
  · have B1 : 1 < 2 ^ 52 := by decide
    have B2 : 1 < 2 ^ 23 := by decide
    by_cases hr0 : r = 0
    · subst hr0
      have key : ∀ P, fval (2 ^ 52) R = fval (2 ^ 23) 0 * P → fval (2 ^ 52) R = 0 := fun P h => by rw [h, fval_zero _ B2, Nat.zero_mul]
      have := (fval_pos (2 ^ 52) R B1).1 (key _ c3)
      clear c3 key
      subst this
      decide
    have hR0 : R ≠ 0 := fun h => by
      rw [(fval_pos (2 ^ 52) R B1).2 h] at c3
      have hp := Nat.two_pow_pos 925
      have := (fval_pos (2 ^ 23) r B2)
      rcases Nat.mul_eq_zero.1 c3.symm with h1 | h1
      · exact hr0 (this.1 h1)
      · exact absurd h1 (Nat.pos_iff_ne_zero.1 hp)
    unfold sizeS sizeS32
    rw [if_neg (show ¬ R = 9218868437227405312 by omega), if_neg hR0, if_neg (show ¬ r = 2139095040 by omega), if_neg hr0]
    have v52 : ∃ m k : Nat, m ≠ 0 ∧ m < 18446744073709551616 ∧ fval (2 ^ 52) R = m * 2 ^ k ∧ (if R < 4503599627370496 then oddS R (-1074) else oddS (4503599627370496 + R % 4503599627370496) (-1074 + (R : Int) / 4503599627370496 - 1)) = oddS m (-1074 + (k : Int)) := by
      by_cases h : R < 4503599627370496
      · exact ⟨R, 0, hR0, by omega, by rw [Nat.pow_zero, Nat.mul_one]; exact (apart_val0 52 R h).symm, by rw [if_pos h]; rfl⟩
      · refine ⟨4503599627370496 + R % 4503599627370496, R / 4503599627370496 - 1, by omega, by omega, (apart_val 52 R (by show 4503599627370496 ≤ R; omega)).symm, ?_⟩
        rw [if_neg h]
        congr 1
        omega
    have v23 : ∃ m k : Nat, m ≠ 0 ∧ m < 18446744073709551616 ∧ fval (2 ^ 23) r = m * 2 ^ k ∧ (if r < 8388608 then oddS r (-149) else oddS (8388608 + r % 8388608) (-149 + (r : Int) / 8388608 - 1)) = oddS m (-149 + (k : Int)) := by
      by_cases h : r < 8388608
      · exact ⟨r, 0, hr0, by omega, by rw [Nat.pow_zero, Nat.mul_one]; exact (apart_val0 23 r h).symm, by rw [if_pos h]; rfl⟩
      · refine ⟨8388608 + r % 8388608, r / 8388608 - 1, by omega, by omega, (apart_val 23 r (by show 8388608 ≤ r; omega)).symm, ?_⟩
        rw [if_neg h]
        congr 1
        omega
    obtain ⟨m, k, hm0, hm1, hm, em⟩ := v52
    obtain ⟨m', k', hm0', hm1', hm', em'⟩ := v23
    rw [em, em', show (-149 : Int) + (k' : Int) = -1074 + ((k' + 925 : Nat) : Int) from by omega]
    refine oddS_same m m' k (k' + 925) (-1074) hm0 hm0' hm1 hm1' ?_
    have hpa := Nat.pow_add 2 k' 925
    rw [← hm, c3, hm', hpa]
    generalize 2 ^ 925 = Q
    rw [Nat.mul_assoc]
  · subst c1; subst c2; decide
  · omega
#print axioms wide_text
end Go.Proofs.YtkfmmpolcjbnbaaDoor
