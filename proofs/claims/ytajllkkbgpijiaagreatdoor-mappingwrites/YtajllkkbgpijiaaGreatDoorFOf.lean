/-
  The walks of floatOf, IsNaN, signBit, compareFloats: floats by their bits.
-/
import Derived.Test.YtajllkkbgpijiaaGreatDoorWide
import Derived.Laws.Externs
namespace Go.Proofs.YtajllkkbgpijiaaGreatDoor.Ty
open Pl Go.RowKit

theorem frombits_run (n : Int) (w : World) : (callFunc 88 #[.int .u64 n]).run Tryz.prog w = .ok (.value (.float .f64 n.toNat)) w := by
  rw [run_callFunc_extern Tryz.func88 (by kernel_rfl) (by kernel_rfl) (by kernel_rfl) (e := Extern.MathFloatBits.float64frombits) (by kernel_rfl)]; rfl
theorem bits_run (n : Nat) (w : World) : (callFunc 96 #[.float .f64 n]).run Tryz.prog w = .ok (.value (.int .u64 (n : Int))) w := by
  rw [run_callFunc_extern Tryz.func96 (by kernel_rfl) (by kernel_rfl) (by kernel_rfl) (e := Extern.MathFloatBits.float64bits) (by kernel_rfl)]; rfl

set_option maxHeartbeats 1000000 in
theorem floatOf8 (a : Option Addr) (cap : Nat) (zs : List Int) (w : World) (hr : Row w a 8 zs) :
    Calls Tryz.prog 82 #[.slice a 8 cap] w fun e w' => e = .returned (.float .f64 (num zs).toNat) ∧ w' = w := by
  have hfb := frombits_run
  go_enter Tryz.func82, Tryz.ntmps82
  go_wp2_with fail
  refine (number_any _ _ _ zs _ hr (by omega)).mono ?_
  rintro e w' ⟨rfl, rfl⟩
  go_wp2
  go_ret
  exact ⟨rfl, rfl⟩

/-- The word of a float of 4 bytes as one of 8. -/
def WideWord (n X : Nat) : Prop := ∃ R : Nat, X = n / 2147483648 * 9223372036854775808 + R ∧
  ((n % 2147483648 < 2139095040 ∧ R < 9218868437227405312 ∧ fval (2 ^ 52) R = fval (2 ^ 23) (n % 2147483648) * 2 ^ 925) ∨ (n % 2147483648 = 2139095040 ∧ R = 9218868437227405312) ∨ (2139095040 < n % 2147483648 ∧ R = 9218868437227405313))

theorem widened_any (n : Int) (w : World) (hT : Tab64 w) (h0 : 0 ≤ n) (h1 : n < 4294967296) :
    Calls Tryz.prog 87 #[.int .u64 n] w fun e w' => ∃ X : Nat, e = .returned (.int .u64 X) ∧ WideWord n.toNat X ∧ Below w.heap.size w w' := by
  have hd : ((n.toNat / 2147483648 : Nat) : Int) = n / 2147483648 := by omega
  rcases Int.lt_trichotomy (n % 2147483648) 2139095040 with h | h | h
  · refine (widened_num n _ w hT h0 h1 rfl h).mono ?_
    rintro e w' ⟨R, rfl, hR, hV, hb⟩
    refine ⟨n.toNat / 2147483648 * 9223372036854775808 + R, ret_int (by omega), ⟨R, rfl, .inl ⟨by omega, hR, ?_⟩⟩, hb⟩
    rw [hV, show (n % 2147483648).toNat = n.toNat % 2147483648 from by omega]
  · refine (widened_inf n w h0 h1 h).mono ?_
    rintro e w' ⟨rfl, hb⟩
    exact ⟨n.toNat / 2147483648 * 9223372036854775808 + 9218868437227405312, ret_int (by omega), ⟨_, rfl, .inr (.inl ⟨by omega, rfl⟩)⟩, hb⟩
  · refine (widened_nan n w h0 h1 h).mono ?_
    rintro e w' ⟨rfl, hb⟩
    exact ⟨n.toNat / 2147483648 * 9223372036854775808 + 9218868437227405313, ret_int (by omega), ⟨_, rfl, .inr (.inr ⟨by omega, rfl⟩)⟩, hb⟩

set_option maxHeartbeats 1000000 in
theorem floatOf4 (a : Option Addr) (cap : Nat) (zs : List Int) (w : World) (hr : Row w a 4 zs) (hT : Tab64 w) :
    Calls Tryz.prog 82 #[.slice a 4 cap] w fun e w' => ∃ X : Nat, e = .returned (.float .f64 X) ∧ WideWord (num zs).toNat X ∧ Below w.heap.size w w' := by
  have hfb := frombits_run
  have hn := num_bd zs hr.oct
  rw [hr.size] at hn
  have hn1 : num zs < 4294967296 := hn.2
  go_enter Tryz.func82, Tryz.ntmps82
  go_wp2_with fail
  refine (number_any _ _ _ zs _ hr (by omega)).mono ?_
  rintro e w' ⟨rfl, rfl⟩
  go_wp2_with fail
  refine (widened_any _ _ hT hn.1 hn1).mono ?_
  rintro e w1 ⟨X, rfl, hX, hb⟩
  go_wp2
  go_ret
  exact ⟨X, rfl, hX, hb⟩

/-- The word of a float of 4 or 8 bytes, as one of 8. -/
def FWord (zs : List Int) (X : Nat) : Prop := (zs.length = 8 ∧ X = (num zs).toNat) ∨ (zs.length = 4 ∧ WideWord (num zs).toNat X)

theorem floatOf_any (a : Option Addr) (len cap : Nat) (zs : List Int) (w : World) (hr : Row w a len zs) (hT : Tab64 w) (hl : len = 4 ∨ len = 8) :
    Calls Tryz.prog 82 #[.slice a len cap] w fun e w' => ∃ X : Nat, e = .returned (.float .f64 X) ∧ FWord zs X ∧ Below w.heap.size w w' := by
  have hs := hr.size
  rcases hl with rfl | rfl
  · refine (floatOf4 a cap zs w hr hT).mono ?_
    rintro e w' ⟨X, rfl, hX, hb⟩
    exact ⟨X, rfl, .inr ⟨hs, hX⟩, hb⟩
  · refine (floatOf8 a cap zs w hr).mono ?_
    rintro e w' ⟨rfl, rfl⟩
    exact ⟨_, rfl, .inl ⟨hs, rfl⟩, Below.refl _ _⟩

theorem isNaN_any (x : Nat) (w : World) : Calls Tryz.prog 81 #[.float .f64 x] w fun e w' => e = .returned (.bool (Ieee.double.order x x != some .eq)) ∧ w' = w := by
  go_enter Tryz.func81, Tryz.ntmps81
  go_wp2
  go_ret
  exact ⟨rfl, rfl⟩

theorem signBit_any (x : Nat) (w : World) : Calls Tryz.prog 90 #[.float .f64 x] w fun e w' => e = .returned (.int .u64 ((x : Int) / 9223372036854775808)) ∧ w' = w := by
  have hfb := bits_run
  go_enter Tryz.func90, Tryz.ntmps90
  go_wp2
  go_ret
  exact ⟨rfl, rfl⟩

/-- What cmp.Compare tells. -/
def cmpN (x y : Int) : Int := if x < y then -1 else if y < x then 1 else 0

theorem cmpU_any (x y : Int) (w : World) : Calls Tryz.prog 86 #[.int .u64 x, .int .u64 y] w fun e w' => e = .returned (.int .i64 (cmpN x y)) ∧ w' = w := by
  go_enter Tryz.func86, Tryz.ntmps86
  go_wp2
  all_goals go_ret
  all_goals refine ⟨ret_int ?_, rfl⟩
  all_goals go_light
  all_goals simp_all [cmpN]
  all_goals omega
theorem cmpI_any (x y : Int) (w : World) : Calls Tryz.prog 83 #[.int .i64 x, .int .i64 y] w fun e w' => e = .returned (.int .i64 (cmpN x y)) ∧ w' = w := by
  go_enter Tryz.func83, Tryz.ntmps83
  go_wp2
  all_goals go_ret
  all_goals refine ⟨ret_int ?_, rfl⟩
  all_goals go_light
  all_goals simp_all [cmpN]
  all_goals omega

/-- What compareFloats tells of two words. -/
def cmpF (x y : Nat) : Int := if Ieee.double.order x y = some .lt then -1 else if Ieee.double.order x y = some .gt then 1 else cmpN ((y : Int) / 9223372036854775808) ((x : Int) / 9223372036854775808)

theorem cmpF_lt {x y : Nat} (h : (FloatKind.f64.format.order x y == some Ordering.lt) = true) : -1 = cmpF x y := by
  have h' : FloatKind.f64.format.order x y = some .lt := by simpa using h
  change Ieee.double.order x y = some .lt at h'
  unfold cmpF; rw [if_pos h']
theorem cmpF_gt {x y : Nat} (h : (FloatKind.f64.format.order x y == some Ordering.gt) = true) : 1 = cmpF x y := by
  have h' : FloatKind.f64.format.order x y = some .gt := by simpa using h
  change Ieee.double.order x y = some .gt at h'
  unfold cmpF; rw [h']; simp
theorem cmpF_eq {x y : Nat} (h : (FloatKind.f64.format.order x y == some Ordering.lt) = false) (h' : (FloatKind.f64.format.order x y == some Ordering.gt) = false) :
    cmpN ((y : Int) / 9223372036854775808) ((x : Int) / 9223372036854775808) = cmpF x y := by
  have h1 : ¬ FloatKind.f64.format.order x y = some .lt := by simpa using h
  change ¬ Ieee.double.order x y = some .lt at h1
  have h2 : ¬ FloatKind.f64.format.order x y = some .gt := by simpa using h'
  change ¬ Ieee.double.order x y = some .gt at h2
  unfold cmpF; rw [if_neg h1, if_neg h2]

set_option maxRecDepth 100000 in
theorem compareFloats_any (x y : Nat) (w : World) : Calls Tryz.prog 85 #[.float .f64 x, .float .f64 y] w fun e w' => e = .returned (.int .i64 (cmpF x y)) ∧ w' = w := by
  go_enter Tryz.func85, Tryz.ntmps85
  go_wp2_with fail
  · have h1 : (FloatKind.f64.format.order x y == some Ordering.lt) = true := by assumption
    go_ret
    exact ⟨ret_int (cmpF_lt h1), rfl⟩
  · have h1 : (FloatKind.f64.format.order x y == some Ordering.gt) = true := by assumption
    go_ret
    exact ⟨ret_int (cmpF_gt h1), rfl⟩
  · have h1 : (FloatKind.f64.format.order x y == some Ordering.lt) = false := by assumption
    have h2 : (FloatKind.f64.format.order x y == some Ordering.gt) = false := by assumption
    refine (signBit_any y _).mono ?_
    rintro e w' ⟨rfl, rfl⟩
    go_wp2_with fail
    refine (signBit_any x _).mono ?_
    rintro e w' ⟨rfl, rfl⟩
    go_wp2_with fail
    refine (cmpU_any _ _ _).mono ?_
    rintro e w' ⟨rfl, rfl⟩
    go_wp2_with fail
    go_ret
    exact ⟨ret_int (cmpF_eq h1 h2), rfl⟩
end Go.Proofs.YtajllkkbgpijiaaGreatDoor.Ty
