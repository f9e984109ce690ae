/-
  The walks of the document's Digits and Signed: a number's decimal digits.
  The walk of the document's hex: a number's digits to the base 16, so many.
  The walk of the document's float: the text of a float of 4 or 8 bytes.
-/
import Derived.Test.YtkfmmpolcjbnbaaGreatDoorLaid
import Derived.Test.YtkfmmpolcjbnbaaGreatDoorLent
import Derived.Deep.RegionWith
import Derived.Test.YtkfmmpolcjbnbaaGreatDoorHex
import Derived.Test.YtkfmmpolcjbnbaaGreatDoorTog
namespace Go.Proofs.YtkfmmpolcjbnbaaGreatDoor
open Pl Go.RowKit

theorem one_str (W : World) (c : Int) (h : 0 ≤ c ∧ c < 256) : (convert 23 9 (.slice (some ⟨W.heap.size, 0, none⟩) 1 1)).run Tryz.prog (W.alloc (.cells #[.int .u8 c] 5)) = .ok (.string (str [UInt8.ofNat c.toNat])) (W.alloc (.cells #[.int .u8 c] 5)) :=
  (row_lit W #[.int .u8 c] 5 [c] 1 rfl (fun n hn => by simp at hn; omega) rfl).str' 1

theorem dec_small (u : Nat) (h : u < 10) : Lib.decDigits u = [UInt8.ofNat (48 + u)] := by rw [Lib.decDigits, dif_pos h]
theorem dec_step (u : Nat) (h : ¬ u < 10) : Lib.decDigits u = Lib.decDigits (u / 10) ++ [UInt8.ofNat (48 + u % 10)] := by rw [Lib.decDigits, dif_neg h]

end Go.Proofs.YtkfmmpolcjbnbaaGreatDoor
namespace Go.Proofs.YtkfmmpolcjbnbaaGreatDoor
open Pl Go.RowKit

/-- So many of a number's digits, the highest first. -/
def hexR (n : Int) : Nat → List Int
  | 0 => []
  | d + 1 => hexZ (n / 2 ^ (4 * d) % 16) :: hexR n d

theorem hexR_len (n : Int) : ∀ d, (hexR n d).length = d
  | 0 => rfl
  | d + 1 => by simp [hexR, hexR_len n d]

theorem hexR_step (x y : Int) (h0 : 0 ≤ x) (h1 : x < 256) : ∀ d, hexR (x + 256 * y) (d + 2) = hexR y d ++ [hexZ (x / 16), hexZ (x % 16)]
  | 0 => by
    simp only [hexR, List.nil_append]
    rw [show (x + 256 * y) / 2 ^ (4 * (0 + 1)) % 16 = x / 16 from by show (x + 256 * y) / 16 % 16 = _; omega, show (x + 256 * y) / 2 ^ (4 * 0) % 16 = x % 16 from by show (x + 256 * y) / 1 % 16 = _; omega]
  | d + 1 => by
    have e : (x + 256 * y) / 2 ^ (4 * (d + 2)) = y / 2 ^ (4 * d) := by
      rw [show (2 : Int) ^ (4 * (d + 2)) = 256 * 2 ^ (4 * d) from by rw [Nat.mul_add, Int.pow_add, Int.mul_comm]; rfl, ← Int.ediv_ediv_of_nonneg (by decide), show (x + 256 * y) / 256 = y from by omega]
    rw [hexR, hexR_step x y h0 h1 d, e, hexR]
    rfl
theorem hexL_hexR : ∀ zs : List Int, Oct zs → hexL zs.reverse = hexR (num zs) (2 * zs.length)
  | [], _ => rfl
  | x :: zs, h => by
    have hx := h x (by simp)
    rw [List.reverse_cons, hexL_snoc, hexL_hexR zs (fun n hn => h n (by simp [hn])), num, List.length_cons, show 2 * (zs.length + 1) = 2 * zs.length + 2 from by omega, hexR_step x _ hx.1 hx.2]
theorem hexR_two (c : Int) (h0 : 0 ≤ c) (h1 : c < 256) : hexR c 2 = [hexZ (c / 16), hexZ (c % 16)] := by
  have := hexR_step c 0 h0 h1 0
  rw [Int.mul_zero, Int.add_zero] at this
  exact this

theorem digit64 (x : Int) (h0 : 0 ≤ x) (h1 : x < 16) (w : World) : (Instr.index 9 (.string ⟨#[48, 49, 50, 51, 52, 53, 54, 55, 56, 57, 97, 98, 99, 100, 101, 102]⟩) (.int .u64 x)).run Tryz.prog w = .ok (.int .u8 (hexZ x)) w := by
  have : x = 0 ∨ x = 1 ∨ x = 2 ∨ x = 3 ∨ x = 4 ∨ x = 5 ∨ x = 6 ∨ x = 7 ∨ x = 8 ∨ x = 9 ∨ x = 10 ∨ x = 11 ∨ x = 12 ∨ x = 13 ∨ x = 14 ∨ x = 15 := by omega
  rcases this with rfl | rfl | rfl | rfl | rfl | rfl | rfl | rfl | rfl | rfl | rfl | rfl | rfl | rfl | rfl | rfl <;> (simp [go_sem, hexZ]; rfl)
theorem and15u (x : Int) (h0 : 0 ≤ x) (h1 : x < 18446744073709551616) : bits .and .u64 x 15 = x % 16 := by
  obtain ⟨m, rfl⟩ := Int.eq_ofNat_of_zero_le h0
  have h := u64_and_nat m 15 (by omega) (by decide)
  rw [show ((15 : Nat) : Int) = (15 : Int) from rfl] at h
  rw [h, show m &&& 15 = m % 16 from Nat.and_two_pow_sub_one_eq_mod m 4]; omega

theorem strOfNums_append (a b : List Int) : strOfNums a ++ strOfNums b = strOfNums (a ++ b) := by
  rw [strOfNums_str, strOfNums_str, strOfNums_str, str_append]
  unfold byteL
  rw [List.map_append]

set_option maxHeartbeats 4000000 in
set_option maxRecDepth 100000 in
theorem refHex_any (n : Int) (D : Nat) (w : World) (h0 : 0 ≤ n) (h1 : n < 18446744073709551616) (hD : D ≤ 16) :
    Calls Tryz.prog 67 #[.int .u64 n, .int .i64 (D : Int)] w fun e w' => e = .returned (.string (strOfNums (hexR n D))) ∧ Below w.heap.size w w' := by
  have hD' : (D : Int) ≤ 16 := by omega
  go_enter Tryz.func67, Tryz.ntmps67
  go_wp2_with fail
  go_loopw [5, 6] (fun s i wr => ∃ (k : Nat) (l : List Int), k ≤ D ∧ i = .int .i64 ((k : Int) - 1) ∧ s = .string (strOfNums l) ∧ l ++ hexR n k = hexR n D ∧ Below w.heap.size w wr)
    (fun _ i _ => (intOf i + 1).toNat)
  case atStart => exact ⟨D, [], Nat.le_refl _, rfl, rfl, rfl, Below.refl _ _⟩
  case round =>
    obtain ⟨k, l, hk, rfl, rfl, hl, hb⟩ := hrel
    by_cases hlt : 0 < k
    · obtain ⟨j, rfl⟩ : ∃ j, k = j + 1 := ⟨k - 1, by omega⟩
      have hj : (0 : Int) ≤ (j : Int) := by omega
      have hj' : (j : Int) ≤ 15 := by omega
      have hq0 : 0 ≤ n / 2 ^ (4 * j) := Int.ediv_nonneg h0 (by exact_mod_cast Nat.zero_le _)
      have hq1 : n / 2 ^ (4 * j) < 18446744073709551616 := Int.lt_of_le_of_lt (Int.ediv_le_self _ h0) h1
      have a15 := and15u (n / 2 ^ (4 * j)) hq0 hq1
      have dg := digit64 (n / 2 ^ (4 * j) % 16) (by omega) (by omega)
      have hz := hexZ_bd (n / 2 ^ (4 * j) % 16) (by omega) (by omega)
      have ll : l.length ≤ 16 := by have := congrArg List.length hl; rw [List.length_append, hexR_len, hexR_len] at this; omega
      have HL : Hid ((l ++ [hexZ (n / 2 ^ (4 * j) % 16)]) ++ hexR n j = hexR n D) := by show _ = _; rw [← hl, hexR]; simp
      have os := one_str wr (hexZ (n / 2 ^ (4 * j) % 16)) hz
      obtain ⟨s1, HS1⟩ : ∃ s, Hid (strOfNums l = s) := ⟨_, rfl⟩
      obtain ⟨s2, HS2⟩ : ∃ s, Hid (str [UInt8.ofNat (hexZ (n / 2 ^ (4 * j) % 16)).toNat] = s) := ⟨_, rfl⟩
      have z1 : s1.size ≤ 16 := by rw [← HS1.out, strOfNums_size]; exact ll
      have z2 : s2.size = 1 := by rw [← HS2.out]; rfl
      have ad := add_run s1 s2 (by omega)
      have HA : Hid (s1 ++ s2 = strOfNums (l ++ [hexZ (n / 2 ^ (4 * j) % 16)])) := by show _ = _; rw [← strOfNums_append, HS1.out, ← HS2.out]; rfl
      rw [HS1.out]
      rw [HS2.out] at os
      rw [show (((j + 1 : Nat) : Int) - 1) = (j : Int) from by omega]
      clear hl z1 z2 ll
      go_wp2_with fail
      exact ⟨⟨j, l ++ [hexZ (n / 2 ^ (4 * j) % 16)], by omega, rfl, congrArg Value.string HA.out, HL.out, Below.al hb _⟩, by simp [intOf]⟩
    · obtain rfl : k = 0 := by omega
      rw [hexR, List.append_nil] at hl
      subst hl
      go_wp2_with fail
      go_ret
      exact ⟨rfl, hb⟩
#print axioms refHex_any
end Go.Proofs.YtkfmmpolcjbnbaaGreatDoor
namespace Go.Proofs.YtkfmmpolcjbnbaaGreatDoor
open Pl Go.RowKit

/-- Odd numbers times powers of 2 are told apart. -/
theorem odd_unique : ∀ (a b M N : Nat), M % 2 = 1 → N % 2 = 1 → M * 2 ^ a = N * 2 ^ b → M = N ∧ a = b
  | 0, 0, M, N, _, _, h => ⟨by simpa using h, rfl⟩
  | 0, b + 1, M, N, hM, _, h => by rw [Nat.pow_succ, ← Nat.mul_assoc] at h; simp at h; omega
  | a + 1, 0, M, N, _, hN, h => by rw [Nat.pow_succ, ← Nat.mul_assoc] at h; simp at h; omega
  | a + 1, b + 1, M, N, hM, hN, h => by
    rw [Nat.pow_succ, Nat.pow_succ, ← Nat.mul_assoc, ← Nat.mul_assoc] at h
    have := odd_unique a b M N hM hN (by omega)
    omega
theorem odd_parts (m : Nat) (h0 : m ≠ 0) (h : m < 18446744073709551616) : m = m / 2 ^ Lib.ctz 64 m * 2 ^ Lib.ctz 64 m ∧ (m / 2 ^ Lib.ctz 64 m) % 2 = 1 ∧ Lib.ctz 64 m < 64 := by
  obtain ⟨_, hz⟩ := Lib.lowest_bit 64 m h0 h
  obtain ⟨q, hq, _⟩ := Lib.ctzFrom_spec 64 m (by omega) h
  have hc : Lib.ctz 64 m = Lib.ctzFrom 64 m := by unfold Lib.ctz; rw [if_neg h0]
  rw [← hc] at hq
  have hp : 0 < 2 ^ Lib.ctz 64 m := Nat.two_pow_pos _
  have hM : m / 2 ^ Lib.ctz 64 m = 2 * q + 1 := by
    conv => lhs; arg 1; rw [hq]
    rw [Nat.mul_comm]; exact Nat.mul_div_cancel _ hp
  refine ⟨?_, by omega, hz⟩
  rw [hM, Nat.mul_comm]
  exact hq
/-- The text of m times 2 to the e hangs on that number alone. -/
theorem oddS_same (m m' : Nat) (k k' : Nat) (e : Int) (h0 : m ≠ 0) (h0' : m' ≠ 0) (h : m < 18446744073709551616) (h' : m' < 18446744073709551616) (hv : m * 2 ^ k = m' * 2 ^ k') : oddS m (e + (k : Int)) = oddS m' (e + (k' : Int)) := by
  obtain ⟨p1, p2, _⟩ := odd_parts m h0 h
  obtain ⟨q1, q2, _⟩ := odd_parts m' h0' h'
  have := odd_unique (Lib.ctz 64 m + k) (Lib.ctz 64 m' + k') (m / 2 ^ Lib.ctz 64 m) (m' / 2 ^ Lib.ctz 64 m') p2 q2 (by
    rw [Nat.pow_add, Nat.pow_add, ← Nat.mul_assoc, ← Nat.mul_assoc, ← p1, ← q1]; exact hv)
  unfold oddS
  rw [this.1]
  congr 3
  omega
/-- .. and a number that is halved so often that it is odd is that one. -/
theorem oddS_of (F f k : Nat) (e : Int) (h0 : F ≠ 0) (h : F < 18446744073709551616) (hv : F = f * 2 ^ k) (ho : f % 2 = 1) : oddS F e = Lib.decDigits f ++ (112 :: Lib.itoa (e + (k : Int))) := by
  obtain ⟨p1, p2, _⟩ := odd_parts F h0 h
  have := odd_unique (Lib.ctz 64 F) k (F / 2 ^ Lib.ctz 64 F) f p2 ho (by rw [← p1]; exact hv)
  unfold oddS
  rw [this.1, this.2]

/-- The text of a float of 32 bits without its sign, no NaN. -/
def sizeS32 (r : Nat) : List UInt8 :=
  if r = 2139095040 then [105, 110, 102] else if r = 0 then [48, 112, 48]
  else if r < 8388608 then oddS r (-149) else oddS (8388608 + r % 8388608) (-149 + (r : Int) / 8388608 - 1)

theorem fval_pos (B r : Nat) (hB : 1 < B) : fval B r = 0 ↔ r = 0 := by
  have h := fval_eq B r 0 hB
  rw [fval_zero B hB] at h
  exact h

/-- A float of 32 bits has the text that it has as one of 64. -/
theorem wide_text (n X : Nat) (h : WideWord n X) (hn : n % 2147483648 ≤ 2139095040) : X / 9223372036854775808 = n / 2147483648 ∧ X % 9223372036854775808 ≤ 9218868437227405312 ∧ sizeS (X % 9223372036854775808) = sizeS32 (n % 2147483648) := by
  obtain ⟨R, rfl, hc⟩ := h
  have hR : R ≤ 9218868437227405312 := by omega
  have e1 : (n / 2147483648 * 9223372036854775808 + R) % 9223372036854775808 = R := by omega
  rw [e1]
  refine ⟨by clear hc hn; omega, hR, ?_⟩
  generalize n % 2147483648 = r at *
  rcases hc with ⟨c1, c2, c3⟩ | ⟨c1, c2⟩ | ⟨c1, c2⟩
  · have B1 : 1 < 2 ^ 52 := by decide
    have B2 : 1 < 2 ^ 23 := by decide
    by_cases hr0 : r = 0
    · subst hr0
      have key : ∀ P, fval (2 ^ 52) R = fval (2 ^ 23) 0 * P → fval (2 ^ 52) R = 0 := fun P h => by rw [h, fval_zero _ B2, Nat.zero_mul]
      have := (fval_pos (2 ^ 52) R B1).1 (key _ c3)
      clear c3 key
      subst this
      decide
    have hR0 : R ≠ 0 := fun h => by
      rw [(fval_pos (2 ^ 52) R B1).2 h] at c3
      have hp := Nat.two_pow_pos 925
      have := (fval_pos (2 ^ 23) r B2)
      rcases Nat.mul_eq_zero.1 c3.symm with h1 | h1
      · exact hr0 (this.1 h1)
      · exact absurd h1 (Nat.pos_iff_ne_zero.1 hp)
    unfold sizeS sizeS32
    rw [if_neg (show ¬ R = 9218868437227405312 by omega), if_neg hR0, if_neg (show ¬ r = 2139095040 by omega), if_neg hr0]
    have v52 : ∃ m k : Nat, m ≠ 0 ∧ m < 18446744073709551616 ∧ fval (2 ^ 52) R = m * 2 ^ k ∧ (if R < 4503599627370496 then oddS R (-1074) else oddS (4503599627370496 + R % 4503599627370496) (-1074 + (R : Int) / 4503599627370496 - 1)) = oddS m (-1074 + (k : Int)) := by
      by_cases h : R < 4503599627370496
      · exact ⟨R, 0, hR0, by omega, by rw [Nat.pow_zero, Nat.mul_one]; exact (apart_val0 52 R h).symm, by rw [if_pos h]; rfl⟩
      · refine ⟨4503599627370496 + R % 4503599627370496, R / 4503599627370496 - 1, by omega, by omega, (apart_val 52 R (by show 4503599627370496 ≤ R; omega)).symm, ?_⟩
        rw [if_neg h]
        congr 1
        omega
    have v23 : ∃ m k : Nat, m ≠ 0 ∧ m < 18446744073709551616 ∧ fval (2 ^ 23) r = m * 2 ^ k ∧ (if r < 8388608 then oddS r (-149) else oddS (8388608 + r % 8388608) (-149 + (r : Int) / 8388608 - 1)) = oddS m (-149 + (k : Int)) := by
      by_cases h : r < 8388608
      · exact ⟨r, 0, hr0, by omega, by rw [Nat.pow_zero, Nat.mul_one]; exact (apart_val0 23 r h).symm, by rw [if_pos h]; rfl⟩
      · refine ⟨8388608 + r % 8388608, r / 8388608 - 1, by omega, by omega, (apart_val 23 r (by show 8388608 ≤ r; omega)).symm, ?_⟩
        rw [if_neg h]
        congr 1
        omega
    obtain ⟨m, k, hm0, hm1, hm, em⟩ := v52
    obtain ⟨m', k', hm0', hm1', hm', em'⟩ := v23
    rw [em, em', show (-149 : Int) + (k' : Int) = -1074 + ((k' + 925 : Nat) : Int) from by omega]
    refine oddS_same m m' k (k' + 925) (-1074) hm0 hm0' hm1 hm1' ?_
    have hpa := Nat.pow_add 2 k' 925
    rw [← hm, c3, hm', hpa]
    generalize 2 ^ 925 = Q
    rw [Nat.mul_assoc]
  · subst c1; subst c2; decide
  · omega
#print axioms wide_text
end Go.Proofs.YtkfmmpolcjbnbaaGreatDoor
