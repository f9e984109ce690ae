/-
  The walk of the document's hex: a number's digits to the base 16, so many.
-/
import Derived.Test.YteglncddckeegaaGreatDoorDig
import Derived.Test.YteglncddckeegaaGreatDoorFl2
namespace Go.Proofs.YteglncddckeegaaGreatDoor
open Pl Go.RowKit

/-- So many of a number's digits, the highest first. -/
def hexR (n : Int) : Nat → List Int
  | 0 => []
  | d + 1 => hexZ (n / 2 ^ (4 * d) % 16) :: hexR n d

theorem hexR_len (n : Int) : ∀ d, (hexR n d).length = d
  | 0 => rfl
  | d + 1 => by simp [hexR, hexR_len n d]

theorem hexR_step (x y : Int) (h0 : 0 ≤ x) (h1 : x < 256) : ∀ d, hexR (x + 256 * y) (d + 2) = hexR y d ++ [hexZ (x / 16), hexZ (x % 16)]
  | 0 => by
    simp only [hexR, List.nil_append]
    rw [show (x + 256 * y) / 2 ^ (4 * (0 + 1)) % 16 = x / 16 from by show (x + 256 * y) / 16 % 16 = _; omega, show (x + 256 * y) / 2 ^ (4 * 0) % 16 = x % 16 from by show (x + 256 * y) / 1 % 16 = _; omega]
  | d + 1 => by
    have e : (x + 256 * y) / 2 ^ (4 * (d + 2)) = y / 2 ^ (4 * d) := by
      rw [show (2 : Int) ^ (4 * (d + 2)) = 256 * 2 ^ (4 * d) from by rw [Nat.mul_add, Int.pow_add, Int.mul_comm]; rfl, ← Int.ediv_ediv_of_nonneg (by decide), show (x + 256 * y) / 256 = y from by omega]
    rw [hexR, hexR_step x y h0 h1 d, e, hexR]
    rfl
theorem hexL_hexR : ∀ zs : List Int, Oct zs → hexL zs.reverse = hexR (num zs) (2 * zs.length)
  | [], _ => rfl
  | x :: zs, h => by
    have hx := h x (by simp)
    rw [List.reverse_cons, hexL_snoc, hexL_hexR zs (fun n hn => h n (by simp [hn])), num, List.length_cons, show 2 * (zs.length + 1) = 2 * zs.length + 2 from by omega, hexR_step x _ hx.1 hx.2]
theorem hexR_two (c : Int) (h0 : 0 ≤ c) (h1 : c < 256) : hexR c 2 = [hexZ (c / 16), hexZ (c % 16)] := by
  have := hexR_step c 0 h0 h1 0
  rw [Int.mul_zero, Int.add_zero] at this
  exact this

theorem digit64 (x : Int) (h0 : 0 ≤ x) (h1 : x < 16) (w : World) : (Instr.index 9 (.string ⟨#[48, 49, 50, 51, 52, 53, 54, 55, 56, 57, 97, 98, 99, 100, 101, 102]⟩) (.int .u64 x)).run Tryz.prog w = .ok (.int .u8 (hexZ x)) w := by
  have : x = 0 ∨ x = 1 ∨ x = 2 ∨ x = 3 ∨ x = 4 ∨ x = 5 ∨ x = 6 ∨ x = 7 ∨ x = 8 ∨ x = 9 ∨ x = 10 ∨ x = 11 ∨ x = 12 ∨ x = 13 ∨ x = 14 ∨ x = 15 := by omega
  rcases this with rfl | rfl | rfl | rfl | rfl | rfl | rfl | rfl | rfl | rfl | rfl | rfl | rfl | rfl | rfl | rfl <;> (simp [go_sem, hexZ]; rfl)
theorem and15u (x : Int) (h0 : 0 ≤ x) (h1 : x < 18446744073709551616) : bits .and .u64 x 15 = x % 16 := by
  obtain ⟨m, rfl⟩ := Int.eq_ofNat_of_zero_le h0
  have h := u64_and_nat m 15 (by omega) (by decide)
  rw [show ((15 : Nat) : Int) = (15 : Int) from rfl] at h
  rw [h, show m &&& 15 = m % 16 from Nat.and_two_pow_sub_one_eq_mod m 4]; omega

theorem strOfNums_append (a b : List Int) : strOfNums a ++ strOfNums b = strOfNums (a ++ b) := by
  rw [strOfNums_str, strOfNums_str, strOfNums_str, str_append]
  unfold byteL
  rw [List.map_append]

set_option maxHeartbeats 4000000 in
set_option maxRecDepth 100000 in
theorem refHex_any (n : Int) (D : Nat) (w : World) (h0 : 0 ≤ n) (h1 : n < 18446744073709551616) (hD : D ≤ 16) :
    Calls Tryz.prog 70 #[.int .u64 n, .int .i64 (D : Int)] w fun e w' => e = .returned (.string (strOfNums (hexR n D))) ∧ Below w.heap.size w w' := by
  have hD' : (D : Int) ≤ 16 := by omega
  go_enter Tryz.func70, Tryz.ntmps70
  go_wp2_with fail
  go_loopw [5, 6] (fun s i wr => ∃ (k : Nat) (l : List Int), k ≤ D ∧ i = .int .i64 ((k : Int) - 1) ∧ s = .string (strOfNums l) ∧ l ++ hexR n k = hexR n D ∧ Below w.heap.size w wr)
    (fun _ i _ => (intOf i + 1).toNat)
  case atStart => exact ⟨D, [], Nat.le_refl _, rfl, rfl, rfl, Below.refl _ _⟩
  case round =>
    obtain ⟨k, l, hk, rfl, rfl, hl, hb⟩ := hrel
    by_cases hlt : 0 < k
    · obtain ⟨j, rfl⟩ : ∃ j, k = j + 1 := ⟨k - 1, by omega⟩
      have hj : (0 : Int) ≤ (j : Int) := by omega
      have hj' : (j : Int) ≤ 15 := by omega
      have hq0 : 0 ≤ n / 2 ^ (4 * j) := Int.ediv_nonneg h0 (by exact_mod_cast Nat.zero_le _)
      have hq1 : n / 2 ^ (4 * j) < 18446744073709551616 := Int.lt_of_le_of_lt (Int.ediv_le_self _ h0) h1
      have a15 := and15u (n / 2 ^ (4 * j)) hq0 hq1
      have dg := digit64 (n / 2 ^ (4 * j) % 16) (by omega) (by omega)
      have hz := hexZ_bd (n / 2 ^ (4 * j) % 16) (by omega) (by omega)
      have ll : l.length ≤ 16 := by have := congrArg List.length hl; rw [List.length_append, hexR_len, hexR_len] at this; omega
      have HL : Hid ((l ++ [hexZ (n / 2 ^ (4 * j) % 16)]) ++ hexR n j = hexR n D) := by show _ = _; rw [← hl, hexR]; simp
      have os := one_str wr (hexZ (n / 2 ^ (4 * j) % 16)) hz
      obtain ⟨s1, HS1⟩ : ∃ s, Hid (strOfNums l = s) := ⟨_, rfl⟩
      obtain ⟨s2, HS2⟩ : ∃ s, Hid (str [UInt8.ofNat (hexZ (n / 2 ^ (4 * j) % 16)).toNat] = s) := ⟨_, rfl⟩
      have z1 : s1.size ≤ 16 := by rw [← HS1.out, strOfNums_size]; exact ll
      have z2 : s2.size = 1 := by rw [← HS2.out]; rfl
      have ad := add_run s1 s2 (by omega)
      have HA : Hid (s1 ++ s2 = strOfNums (l ++ [hexZ (n / 2 ^ (4 * j) % 16)])) := by show _ = _; rw [← strOfNums_append, HS1.out, ← HS2.out]; rfl
      rw [HS1.out]
      rw [HS2.out] at os
      rw [show (((j + 1 : Nat) : Int) - 1) = (j : Int) from by omega]
      clear hl z1 z2 ll
      go_wp2_with fail
      exact ⟨⟨j, l ++ [hexZ (n / 2 ^ (4 * j) % 16)], by omega, rfl, congrArg Value.string HA.out, HL.out, Below.al hb _⟩, by simp [intOf]⟩
    · obtain rfl : k = 0 := by omega
      rw [hexR, List.append_nil] at hl
      subst hl
      go_wp2_with fail
      go_ret
      exact ⟨rfl, hb⟩
#print axioms refHex_any
end Go.Proofs.YteglncddckeegaaGreatDoor
