/-
  The walks of withPlace, withNumber, placeIn, numberIn.
-/
import Derived.Test.YtimnpdegoehblaaGreatDoorSb
namespace Go.Proofs.YtimnpdegoehblaaGreatDoor
open Go.RowKit

theorem wrap8 (x : Int) : IntKind.u8.wrap x = x % 256 := by simp [IntKind.wrap, IntKind.bits, IntKind.signed]
theorem size8 : (Tryz.prog.info? 23).map (·.size) = some 8 := by kernel_rfl
theorem sizeCM : (Tryz.prog.info? 61).map (·.size) = some 15 := by kernel_rfl
theorem sizePl : (Tryz.prog.info? 28).map (·.size) = some 2 := by kernel_rfl

theorem or_sum (a b p : Nat) (h : a < 2 ^ p) : a ||| b * 2 ^ p = a + b * 2 ^ p := by
  rw [Nat.or_comm, Nat.mul_comm, ← Nat.two_pow_add_eq_or_of_lt h, Nat.add_comm]
theorem orI16 (a b : Int) (ha : 0 ≤ a ∧ a < 256) (hb : 0 ≤ b ∧ b < 256) : bits .or .u16 a (b * 256) = a + 256 * b := by
  obtain ⟨x, rfl⟩ := Int.eq_ofNat_of_zero_le ha.1
  obtain ⟨y, rfl⟩ := Int.eq_ofNat_of_zero_le hb.1
  have := u16_or_nat x (y * 256) (by omega) (by omega)
  rw [or_sum x y 8 (by omega)] at this
  rw [show ((y : Int) * 256) = ((y * 256 : Nat) : Int) from by omega, this]
  omega
theorem orI32 (a b : Int) (p : Nat) (hp : p ≤ 24) (ha : 0 ≤ a ∧ a < 2 ^ p) (hb : 0 ≤ b ∧ b < 256) : bits .or .u32 a (b * 2 ^ p) = a + b * 2 ^ p := by
  obtain ⟨x, rfl⟩ := Int.eq_ofNat_of_zero_le ha.1
  obtain ⟨y, rfl⟩ := Int.eq_ofNat_of_zero_le hb.1
  have h1 : x < 2 ^ p := by have := ha.2; exact_mod_cast this
  have h2 : (2 : Nat) ^ p ≤ 2 ^ 24 := Nat.pow_le_pow_right (by decide) hp
  have h3 : y * 2 ^ p ≤ 255 * 2 ^ 24 := Nat.mul_le_mul (by omega) h2
  have := u32_or_nat x (y * 2 ^ p) (by omega) (by omega)
  rw [or_sum x y p h1] at this
  have e : ((y : Int) * 2 ^ p) = ((y * 2 ^ p : Nat) : Int) := by simp
  rw [e, this]
  simp

set_option linter.unusedSimpArgs false in
set_option maxHeartbeats 4000000 in
set_option maxRecDepth 100000 in
theorem withPlace_any (b0 b1 b2 b3 b4 b5 b6 b7 i s : Int) (hi : 0 ≤ i ∧ i < 65536) (w : World) :
    Calls Tryz.prog 102 #[arr8 b0 b1 b2 b3 b4 b5 b6 b7, .agg #[.int .u16 i, .int .u8 s]] w fun e w' => e = .returned (arr8 b0 (i % 256) (i / 256) s b4 b5 b6 b7) ∧ ∃ o1 o2 o3, w' = (((w.alloc o1).alloc o2).alloc o3).drew := by
  obtain ⟨i0, i1⟩ := hi
  have e1 : IntKind.u8.wrap i = i % 256 := wrap8 i
  have e2 : IntKind.u8.wrap (i / 256) = i / 256 := by rw [wrap8]; omega
  have e3 : i / 2 ^ 8 = i / 256 := rfl
  go_enter Tryz.func102, Tryz.ntmps102
  go_wp2_with fail
  go_region
  go_wp2_with fail
  exact bodyPost_ret (v := arr8 b0 (i % 256) (i / 256) s b4 b5 b6 b7) (by simp [results, Tryz.results102, go_sem]) rfl ⟨rfl, _, _, _, rfl⟩
#print axioms withPlace_any

set_option linter.unusedSimpArgs false in
set_option maxHeartbeats 4000000 in
set_option maxRecDepth 100000 in
theorem withNumber_any (b0 b1 b2 b3 b4 b5 b6 b7 n : Int) (hn : 0 ≤ n ∧ n < 4294967296) (w : World) :
    Calls Tryz.prog 101 #[arr8 b0 b1 b2 b3 b4 b5 b6 b7, .int .u32 n] w fun e w' => e = .returned (arr8 b0 b1 b2 b3 (n % 256) (n / 256 % 256) (n / 65536 % 256) (n / 16777216)) ∧ ∃ o1 o2, w' = (w.alloc o1).alloc o2 := by
  obtain ⟨i0, i1⟩ := hn
  go_enter Tryz.func101, Tryz.ntmps101
  go_wp2_with fail
  exact bodyPost_ret (v := arr8 b0 b1 b2 b3 (n % 256) (n / 256 % 256) (n / 65536 % 256) (n / 16777216)) (by simp [results, Tryz.results101, go_sem]) rfl ⟨rfl, _, _, rfl⟩

set_option linter.unusedSimpArgs false in
set_option maxHeartbeats 4000000 in
set_option maxRecDepth 100000 in
theorem placeIn_any (b0 b1 b2 b3 b4 b5 b6 b7 : Int) (h1 : 0 ≤ b1 ∧ b1 < 256) (h2 : 0 ≤ b2 ∧ b2 < 256) (w : World) :
    Calls Tryz.prog 103 #[arr8 b0 b1 b2 b3 b4 b5 b6 b7] w fun e w' => e = .returned (.agg #[.int .u16 (b1 + 256 * b2), .int .u8 b3]) ∧ ∃ o1 o2, w' = (w.alloc o1).alloc o2 := by
  have ho := orI16 b1 b2 h1 h2
  go_enter Tryz.func103, Tryz.ntmps103
  go_wp2_with fail
  exact bodyPost_ret (v := .agg #[.int .u16 (b1 + 256 * b2), .int .u8 b3]) (by simp [results, Tryz.results103, go_sem]) rfl ⟨rfl, _, _, rfl⟩

set_option linter.unusedSimpArgs false in
set_option maxHeartbeats 4000000 in
set_option maxRecDepth 100000 in
theorem numberIn_any (b0 b1 b2 b3 b4 b5 b6 b7 : Int) (h4 : 0 ≤ b4 ∧ b4 < 256) (h5 : 0 ≤ b5 ∧ b5 < 256) (h6 : 0 ≤ b6 ∧ b6 < 256) (h7 : 0 ≤ b7 ∧ b7 < 256) (w : World) :
    Calls Tryz.prog 104 #[arr8 b0 b1 b2 b3 b4 b5 b6 b7] w fun e w' => e = .returned (.int .u32 (b4 + 256 * b5 + 65536 * b6 + 16777216 * b7)) ∧ ∃ o1, w' = w.alloc o1 := by
  have o1 : bits .or .u32 b4 (b5 * 256) = b4 + b5 * 256 := orI32 b4 b5 8 (by decide) h4 h5
  have o2 : bits .or .u32 (b4 + b5 * 256) (b6 * 65536) = b4 + b5 * 256 + b6 * 65536 := orI32 (b4 + b5 * 256) b6 16 (by decide) (by omega) h6
  have o3 : bits .or .u32 (b4 + b5 * 256 + b6 * 65536) (b7 * 16777216) = b4 + b5 * 256 + b6 * 65536 + b7 * 16777216 := orI32 (b4 + b5 * 256 + b6 * 65536) b7 24 (by decide) (by omega) h7
  have E : Hid (b4 + b5 * 256 + b6 * 65536 + b7 * 16777216 = b4 + 256 * b5 + 65536 * b6 + 16777216 * b7) := by show _ = _; omega
  go_enter Tryz.func104, Tryz.ntmps104
  go_wp2_with fail
  go_ret
  exact ⟨ret_int E.out, _, rfl⟩
#print axioms numberIn_any
end Go.Proofs.YtimnpdegoehblaaGreatDoor
