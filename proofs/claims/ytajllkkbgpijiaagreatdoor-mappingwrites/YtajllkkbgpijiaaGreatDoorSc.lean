/-
  The walks of withPlace, withNumber, placeIn, numberIn.
-/
import Derived.Test.YtajllkkbgpijiaaGreatDoorSb
namespace Go.Proofs.YtajllkkbgpijiaaGreatDoor
open Go.RowKit

theorem wrap8 (x : Int) : IntKind.u8.wrap x = x % 256 := by simp [IntKind.wrap, IntKind.bits, IntKind.signed]
theorem sizePl : (Tryz.prog.info? 43).map (·.size) = some 2 := by kernel_rfl

theorem or_sum (a b p : Nat) (h : a < 2 ^ p) : a ||| b * 2 ^ p = a + b * 2 ^ p := by
  rw [Nat.or_comm, Nat.mul_comm, ← Nat.two_pow_add_eq_or_of_lt h, Nat.add_comm]
theorem orI16 (a b : Int) (ha : 0 ≤ a ∧ a < 256) (hb : 0 ≤ b ∧ b < 256) : bits .or .u16 a (b * 256) = a + 256 * b := by
  obtain ⟨x, rfl⟩ := Int.eq_ofNat_of_zero_le ha.1
  obtain ⟨y, rfl⟩ := Int.eq_ofNat_of_zero_le hb.1
  have := u16_or_nat x (y * 256) (by omega) (by omega)
  rw [or_sum x y 8 (by omega)] at this
  rw [show ((y : Int) * 256) = ((y * 256 : Nat) : Int) from by omega, this]
  omega
theorem orI32 (a b : Int) (p : Nat) (hp : p ≤ 24) (ha : 0 ≤ a ∧ a < 2 ^ p) (hb : 0 ≤ b ∧ b < 256) : bits .or .u32 a (b * 2 ^ p) = a + b * 2 ^ p := by
  obtain ⟨x, rfl⟩ := Int.eq_ofNat_of_zero_le ha.1
  obtain ⟨y, rfl⟩ := Int.eq_ofNat_of_zero_le hb.1
  have h1 : x < 2 ^ p := by have := ha.2; exact_mod_cast this
  have h2 : (2 : Nat) ^ p ≤ 2 ^ 24 := Nat.pow_le_pow_right (by decide) hp
  have h3 : y * 2 ^ p ≤ 255 * 2 ^ 24 := Nat.mul_le_mul (by omega) h2
  have := u32_or_nat x (y * 2 ^ p) (by omega) (by omega)
  rw [or_sum x y p h1] at this
  have e : ((y : Int) * 2 ^ p) = ((y * 2 ^ p : Nat) : Int) := by simp
  rw [e, this]
  simp







end Go.Proofs.YtajllkkbgpijiaaGreatDoor
