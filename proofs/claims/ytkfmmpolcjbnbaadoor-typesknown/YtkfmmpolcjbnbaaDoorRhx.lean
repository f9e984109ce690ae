/-
  The walk of the document's hex: a number's digits to the base 16, so many.
-/
import Derived.Test.YtkfmmpolcjbnbaaDoorDig
import Derived.Test.YtkfmmpolcjbnbaaDoorFl2
namespace Go.Proofs.YtkfmmpolcjbnbaaDoor
open Pl Go.RowKit

/-- So many of a number's digits, the highest first. -/
def hexR (n : Int) : Nat → List Int
  | 0 => []
  | d + 1 => hexZ (n / 2 ^ (4 * d) % 16) :: hexR n d

theorem hexR_len (n : Int) : ∀ d, (hexR n d).length = d
  | 0 => rfl
  | d + 1 => by simp [hexR, hexR_len n d]

theorem hexR_step (x y : Int) (h0 : 0 ≤ x) (h1 : x < 256) : ∀ d, hexR (x + 256 * y) (d + 2) = hexR y d ++ [hexZ (x / 16), hexZ (x % 16)]
  | 0 => by
    simp only [hexR, List.nil_append]
    rw [show (x + 256 * y) / 2 ^ (4 * (0 + 1)) % 16 = x / 16 from by show (x + 256 * y) / 16 % 16 = _; omega, show (x + 256 * y) / 2 ^ (4 * 0) % 16 = x % 16 from by show (x + 256 * y) / 1 % 16 = _; omega]
  | d + 1 => by
    have e : (x + 256 * y) / 2 ^ (4 * (d + 2)) = y / 2 ^ (4 * d) := by
      rw [show (2 : Int) ^ (4 * (d + 2)) = 256 * 2 ^ (4 * d) from by rw [Nat.mul_add, Int.pow_add, Int.mul_comm]; rfl, ← Int.ediv_ediv_of_nonneg (by decide), show (x + 256 * y) / 256 = y from by omega]
    rw [hexR, hexR_step x y h0 h1 d, e, hexR]
    rfl
theorem hexL_hexR : ∀ zs : List Int, Oct zs → hexL zs.reverse = hexR (num zs) (2 * zs.length)
  | [], _ => rfl
  | x :: zs, h => by
    have hx := h x (by simp)
    rw [List.reverse_cons, hexL_snoc, hexL_hexR zs (fun n hn => h n (by simp [hn])), num, List.length_cons, show 2 * (zs.length + 1) = 2 * zs.length + 2 from by omega, hexR_step x _ hx.1 hx.2]
theorem hexR_two (c : Int) (h0 : 0 ≤ c) (h1 : c < 256) : hexR c 2 = [hexZ (c / 16), hexZ (c % 16)] := by
  have := hexR_step c 0 h0 h1 0
  rw [Int.mul_zero, Int.add_zero] at this
  exact this

theorem digit64 (x : Int) (h0 : 0 ≤ x) (h1 : x < 16) (w : World) : (Instr.index 9 (.string ⟨#[48, 49, 50, 51, 52, 53, 54, 55, 56, 57, 97, 98, 99, 100, 101, 102]⟩) (.int .u64 x)).run Tryd.prog w = .ok (.int .u8 (hexZ x)) w := by
  have : x = 0 ∨ x = 1 ∨ x = 2 ∨ x = 3 ∨ x = 4 ∨ x = 5 ∨ x = 6 ∨ x = 7 ∨ x = 8 ∨ x = 9 ∨ x = 10 ∨ x = 11 ∨ x = 12 ∨ x = 13 ∨ x = 14 ∨ x = 15 := by omega
  rcases this with rfl | rfl | rfl | rfl | rfl | rfl | rfl | rfl | rfl | rfl | rfl | rfl | rfl | rfl | rfl | rfl <;> (simp [go_sem, hexZ]; rfl)
theorem and15u (x : Int) (h0 : 0 ≤ x) (h1 : x < 18446744073709551616) : bits .and .u64 x 15 = x % 16 := by
  obtain ⟨m, rfl⟩ := Int.eq_ofNat_of_zero_le h0
  have h := u64_and_nat m 15 (by omega) (by decide)
  rw [show ((15 : Nat) : Int) = (15 : Int) from rfl] at h
  rw [h, show m &&& 15 = m % 16 from Nat.and_two_pow_sub_one_eq_mod m 4]; omega

theorem strOfNums_append (a b : List Int) : strOfNums a ++ strOfNums b = strOfNums (a ++ b) := by
  rw [strOfNums_str, strOfNums_str, strOfNums_str, str_append]
  unfold byteL
  rw [List.map_append]

end Go.Proofs.YtkfmmpolcjbnbaaDoor
