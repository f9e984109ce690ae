/-
  The walks of floatOf, IsNaN, signBit, compareFloats: floats by their bits.
  The walks of signedNumber and hasPlace: whether a value has a place in its type's order.
  The walk of Compare: the order of two values.
-/
import Derived.Test.YtkfmmpolcjbnbaaGreatDoorTog
import Derived.Laws.Externs
namespace Go.Proofs.YtkfmmpolcjbnbaaGreatDoor
open Pl Go.RowKit

theorem frombits_run (n : Int) (w : World) : (callFunc 51 #[.int .u64 n]).run Tryz.prog w = .ok (.value (.float .f64 n.toNat)) w := by
  rw [run_callFunc_extern Tryz.func51 (by kernel_rfl) (by kernel_rfl) (by kernel_rfl) (e := Extern.MathFloatBits.float64frombits) (by kernel_rfl)]; rfl
theorem bits_run (n : Nat) (w : World) : (callFunc 80 #[.float .f64 n]).run Tryz.prog w = .ok (.value (.int .u64 (n : Int))) w := by
  rw [run_callFunc_extern Tryz.func80 (by kernel_rfl) (by kernel_rfl) (by kernel_rfl) (e := Extern.MathFloatBits.float64bits) (by kernel_rfl)]; rfl

set_option maxHeartbeats 1000000 in
theorem floatOf8 (a : Option Addr) (cap : Nat) (zs : List Int) (w : World) (hr : Row w a 8 zs) :
    Calls Tryz.prog 21 #[.slice a 8 cap] w fun e w' => e = .returned (.float .f64 (num zs).toNat) ∧ w' = w := by
  have hfb := frombits_run
  go_enter Tryz.func21, Tryz.ntmps21
  go_wp2_with fail
  refine (number_any _ _ _ zs _ hr (by omega)).mono ?_
  rintro e w' ⟨rfl, rfl⟩
  go_wp2
  go_ret
  exact ⟨rfl, rfl⟩

/-- The word of a float of 4 bytes as one of 8. -/
def WideWord (n X : Nat) : Prop := ∃ R : Nat, X = n / 2147483648 * 9223372036854775808 + R ∧
  ((n % 2147483648 < 2139095040 ∧ R < 9218868437227405312 ∧ fval (2 ^ 52) R = fval (2 ^ 23) (n % 2147483648) * 2 ^ 925) ∨ (n % 2147483648 = 2139095040 ∧ R = 9218868437227405312) ∨ (2139095040 < n % 2147483648 ∧ R = 9218868437227405313))

theorem widened_any (n : Int) (w : World) (hT : Tab64 w) (h0 : 0 ≤ n) (h1 : n < 4294967296) :
    Calls Tryz.prog 50 #[.int .u64 n] w fun e w' => ∃ X : Nat, e = .returned (.int .u64 X) ∧ WideWord n.toNat X ∧ Below w.heap.size w w' := by
  have hd : ((n.toNat / 2147483648 : Nat) : Int) = n / 2147483648 := by omega
  rcases Int.lt_trichotomy (n % 2147483648) 2139095040 with h | h | h
  · refine (widened_num n _ w hT h0 h1 rfl h).mono ?_
    rintro e w' ⟨R, rfl, hR, hV, hb⟩
    refine ⟨n.toNat / 2147483648 * 9223372036854775808 + R, ret_int (by omega), ⟨R, rfl, .inl ⟨by omega, hR, ?_⟩⟩, hb⟩
    rw [hV, show (n % 2147483648).toNat = n.toNat % 2147483648 from by omega]
  · refine (widened_inf n w h0 h1 h).mono ?_
    rintro e w' ⟨rfl, hb⟩
    exact ⟨n.toNat / 2147483648 * 9223372036854775808 + 9218868437227405312, ret_int (by omega), ⟨_, rfl, .inr (.inl ⟨by omega, rfl⟩)⟩, hb⟩
  · refine (widened_nan n w h0 h1 h).mono ?_
    rintro e w' ⟨rfl, hb⟩
    exact ⟨n.toNat / 2147483648 * 9223372036854775808 + 9218868437227405313, ret_int (by omega), ⟨_, rfl, .inr (.inr ⟨by omega, rfl⟩)⟩, hb⟩

set_option maxHeartbeats 1000000 in
theorem floatOf4 (a : Option Addr) (cap : Nat) (zs : List Int) (w : World) (hr : Row w a 4 zs) (hT : Tab64 w) :
    Calls Tryz.prog 21 #[.slice a 4 cap] w fun e w' => ∃ X : Nat, e = .returned (.float .f64 X) ∧ WideWord (num zs).toNat X ∧ Below w.heap.size w w' := by
  have hfb := frombits_run
  have hn := num_bd zs hr.oct
  rw [hr.size] at hn
  have hn1 : num zs < 4294967296 := hn.2
  go_enter Tryz.func21, Tryz.ntmps21
  go_wp2_with fail
  refine (number_any _ _ _ zs _ hr (by omega)).mono ?_
  rintro e w' ⟨rfl, rfl⟩
  go_wp2_with fail
  refine (widened_any _ _ hT hn.1 hn1).mono ?_
  rintro e w1 ⟨X, rfl, hX, hb⟩
  go_wp2
  go_ret
  exact ⟨X, rfl, hX, hb⟩

/-- The word of a float of 4 or 8 bytes, as one of 8. -/
def FWord (zs : List Int) (X : Nat) : Prop := (zs.length = 8 ∧ X = (num zs).toNat) ∨ (zs.length = 4 ∧ WideWord (num zs).toNat X)

theorem floatOf_any (a : Option Addr) (len cap : Nat) (zs : List Int) (w : World) (hr : Row w a len zs) (hT : Tab64 w) (hl : len = 4 ∨ len = 8) :
    Calls Tryz.prog 21 #[.slice a len cap] w fun e w' => ∃ X : Nat, e = .returned (.float .f64 X) ∧ FWord zs X ∧ Below w.heap.size w w' := by
  have hs := hr.size
  rcases hl with rfl | rfl
  · refine (floatOf4 a cap zs w hr hT).mono ?_
    rintro e w' ⟨X, rfl, hX, hb⟩
    exact ⟨X, rfl, .inr ⟨hs, hX⟩, hb⟩
  · refine (floatOf8 a cap zs w hr).mono ?_
    rintro e w' ⟨rfl, rfl⟩
    exact ⟨_, rfl, .inl ⟨hs, rfl⟩, Below.refl _ _⟩

theorem isNaN_any (x : Nat) (w : World) : Calls Tryz.prog 47 #[.float .f64 x] w fun e w' => e = .returned (.bool (Ieee.double.order x x != some .eq)) ∧ w' = w := by
  go_enter Tryz.func47, Tryz.ntmps47
  go_wp2
  go_ret
  exact ⟨rfl, rfl⟩

theorem signBit_any (x : Nat) (w : World) : Calls Tryz.prog 49 #[.float .f64 x] w fun e w' => e = .returned (.int .u64 ((x : Int) / 9223372036854775808)) ∧ w' = w := by
  have hfb := bits_run
  go_enter Tryz.func49, Tryz.ntmps49
  go_wp2
  go_ret
  exact ⟨rfl, rfl⟩

/-- What cmp.Compare tells. -/
def cmpN (x y : Int) : Int := if x < y then -1 else if y < x then 1 else 0

theorem cmpU_any (x y : Int) (w : World) : Calls Tryz.prog 22 #[.int .u64 x, .int .u64 y] w fun e w' => e = .returned (.int .i64 (cmpN x y)) ∧ w' = w := by
  go_enter Tryz.func22, Tryz.ntmps22
  go_wp2
  all_goals go_ret
  all_goals refine ⟨ret_int ?_, rfl⟩
  all_goals go_light
  all_goals simp_all [cmpN]
  all_goals omega
theorem cmpI_any (x y : Int) (w : World) : Calls Tryz.prog 18 #[.int .i64 x, .int .i64 y] w fun e w' => e = .returned (.int .i64 (cmpN x y)) ∧ w' = w := by
  go_enter Tryz.func18, Tryz.ntmps18
  go_wp2
  all_goals go_ret
  all_goals refine ⟨ret_int ?_, rfl⟩
  all_goals go_light
  all_goals simp_all [cmpN]
  all_goals omega

/-- What compareFloats tells of two words. -/
def cmpF (x y : Nat) : Int := if Ieee.double.order x y = some .lt then -1 else if Ieee.double.order x y = some .gt then 1 else cmpN ((y : Int) / 9223372036854775808) ((x : Int) / 9223372036854775808)

theorem cmpF_lt {x y : Nat} (h : (FloatKind.f64.format.order x y == some Ordering.lt) = true) : -1 = cmpF x y := by
  have h' : FloatKind.f64.format.order x y = some .lt := by simpa using h
  change Ieee.double.order x y = some .lt at h'
  unfold cmpF; rw [if_pos h']
theorem cmpF_gt {x y : Nat} (h : (FloatKind.f64.format.order x y == some Ordering.gt) = true) : 1 = cmpF x y := by
  have h' : FloatKind.f64.format.order x y = some .gt := by simpa using h
  change Ieee.double.order x y = some .gt at h'
  unfold cmpF; rw [h']; simp
theorem cmpF_eq {x y : Nat} (h : (FloatKind.f64.format.order x y == some Ordering.lt) = false) (h' : (FloatKind.f64.format.order x y == some Ordering.gt) = false) :
    cmpN ((y : Int) / 9223372036854775808) ((x : Int) / 9223372036854775808) = cmpF x y := by
  have h1 : ¬ FloatKind.f64.format.order x y = some .lt := by simpa using h
  change ¬ Ieee.double.order x y = some .lt at h1
  have h2 : ¬ FloatKind.f64.format.order x y = some .gt := by simpa using h'
  change ¬ Ieee.double.order x y = some .gt at h2
  unfold cmpF; rw [if_neg h1, if_neg h2]

set_option maxRecDepth 100000 in
theorem compareFloats_any (x y : Nat) (w : World) : Calls Tryz.prog 20 #[.float .f64 x, .float .f64 y] w fun e w' => e = .returned (.int .i64 (cmpF x y)) ∧ w' = w := by
  go_enter Tryz.func20, Tryz.ntmps20
  go_wp2_with fail
  · have h1 : (FloatKind.f64.format.order x y == some Ordering.lt) = true := by assumption
    go_ret
    exact ⟨ret_int (cmpF_lt h1), rfl⟩
  · have h1 : (FloatKind.f64.format.order x y == some Ordering.gt) = true := by assumption
    go_ret
    exact ⟨ret_int (cmpF_gt h1), rfl⟩
  · have h1 : (FloatKind.f64.format.order x y == some Ordering.lt) = false := by assumption
    have h2 : (FloatKind.f64.format.order x y == some Ordering.gt) = false := by assumption
    refine (signBit_any y _).mono ?_
    rintro e w' ⟨rfl, rfl⟩
    go_wp2_with fail
    refine (signBit_any x _).mono ?_
    rintro e w' ⟨rfl, rfl⟩
    go_wp2_with fail
    refine (cmpU_any _ _ _).mono ?_
    rintro e w' ⟨rfl, rfl⟩
    go_wp2_with fail
    go_ret
    exact ⟨ret_int (cmpF_eq h1 h2), rfl⟩
end Go.Proofs.YtkfmmpolcjbnbaaGreatDoor
namespace Go.Proofs.YtkfmmpolcjbnbaaGreatDoor
open Pl Go.RowKit

theorem Row.next {w w' : World} {a : Option Addr} {len : Nat} {zs : List Int} (h : Row w a len zs) (hb : Below w.heap.size w w') : Row w' a len zs where
  size := h.size
  oct := h.oct
  at_ := fun hp => by
    obtain ⟨b, off, e, hc⟩ := h.at_ hp
    exact ⟨b, off, e, fun i hi => by rw [hb.cell (h.old hp b off e)]; exact hc i hi⟩

/-- A number of so many bytes as one with a sign. -/
def sgN (len : Nat) (n : Int) : Int := if n < 2 ^ (8 * len - 1) then n else n - 2 ^ (8 * len)

theorem sg_walk (len : Nat) (n : Int) (h1 : 1 ≤ len) (h8 : len ≤ 8) (h0 : 0 ≤ n) (hn : n < 2 ^ (8 * len)) :
    wrap64 (IntKind.u64.wrap (n * 2 ^ (64 - 8 * len))) / 2 ^ (64 - 8 * len) = sgN len n := by
  have : len = 1 ∨ len = 2 ∨ len = 3 ∨ len = 4 ∨ len = 5 ∨ len = 6 ∨ len = 7 ∨ len = 8 := by omega
  rcases this with rfl | rfl | rfl | rfl | rfl | rfl | rfl | rfl
  all_goals
    simp only [sgN, wrap64, IntKind.wrap_u64]
    simp only [Nat.reduceMul, Nat.reduceSub, Int.reducePow] at hn ⊢
    split <;> omega

set_option maxHeartbeats 1000000 in
theorem signedNumber_any (a : Option Addr) (len cap : Nat) (zs : List Int) (w : World) (hr : Row w a len zs) (h1 : 1 ≤ len) (h8 : len ≤ 8) :
    Calls Tryz.prog 19 #[.slice a len cap] w fun e w' => e = .returned (.int .i64 (sgN len (num zs))) ∧ w' = w := by
  have hi1 : (1 : Int) ≤ (len : Int) := by omega
  have hi8 : (len : Int) ≤ 8 := by omega
  go_enter Tryz.func19, Tryz.ntmps19
  go_wp2_with fail
  refine (number_any _ _ _ zs _ hr h8).mono ?_
  rintro e w' ⟨rfl, rfl⟩
  go_wp2_with fail
  go_ret
  refine ⟨ret_int ?_, rfl⟩
  have hb := num_bd zs hr.oct
  rw [hr.size] at hb
  exact sg_walk len _ h1 h8 hb.1 hb.2

/-- Is it a NaN? -/
def nanB (t : Int) (zs : List Int) : Bool := (t == 8 && decide (2139095040 < num zs % 2147483648)) || (t == 17 && decide (9218868437227405312 < num zs % 9223372036854775808))

/-- Has it a place in its type's order? -/
def placeB (t : Int) (zs : List Int) : Bool := decide (cbN t zs = 0) && !(kindN t == 6) && !(kindN t == 7) && !nanB t zs

theorem order_self (X : Nat) : (Ieee.double.order X X != some .eq) = decide (9218868437227405312 < X % 9223372036854775808) := by
  have e1 : Ieee.double.signWeight = 9223372036854775808 := by decide
  have e2 : Ieee.double.infRung = 9218868437227405312 := by decide
  have e3 : Ieee.double.binade = 4503599627370496 := by decide
  by_cases h : 9218868437227405312 < X % 9223372036854775808
  · rw [order_nan_left Ieee.double X X (by rw [e2, e3]; omega) (by rw [e1, e2]; exact h)]
    simp [h]
  · rw [order_words Ieee.double (by rw [e3]; omega) (by rw [e2, e3]; omega) X X (by rw [e1, e2]; omega) (by rw [e1, e2]; omega)]
    simp [h]

theorem cb_len (t : Int) (zs : List Int) (h : cbN t zs = 0) (hs : 1 ≤ sizeN t) : (zs.length : Int) = sizeN t := by
  unfold cbN at h
  by_cases h0 : kindN t = 0
  · rw [if_pos h0] at h; omega
  rw [if_neg h0, if_neg (by omega : ¬ sizeN t = 0)] at h
  by_cases h1 : sizeN t < (zs.length : Int)
  · rw [if_pos h1] at h; omega
  rw [if_neg h1] at h
  by_cases h2 : (zs.length : Int) < sizeN t
  · rw [if_pos h2] at h; omega
  omega

theorem float_types (t : Int) (h : kindN t = 4) : (t = 8 ∧ sizeN t = 4) ∨ (t = 17 ∧ sizeN t = 8) := by
  rcases type_cases t with rfl | rfl | rfl | rfl | rfl | rfl | rfl | rfl | rfl | rfl | rfl | rfl | rfl | rfl | rfl | rfl | rfl | rfl | ⟨h', _⟩
  all_goals first | (exfalso; revert h; decide) | (left; exact ⟨rfl, by decide⟩) | (right; exact ⟨rfl, by decide⟩) | omega

theorem nan_float (t : Int) (zs : List Int) (X : Nat) (ho : Oct zs) (hk : kindN t = 4) (hl : (zs.length : Int) = sizeN t) (hX : FWord zs X) :
    (Ieee.double.order X X != some .eq) = nanB t zs := by
  rw [order_self]
  have hb := num_bd zs ho
  rcases float_types t hk with ⟨rfl, hs⟩ | ⟨rfl, hs⟩
  · rcases hX with ⟨h, _⟩ | ⟨h, R, hR, hc⟩
    · omega
    · rw [h] at hb
      simp only [Nat.reduceMul, Int.reducePow] at hb
      simp only [nanB]
      simp
      omega
  · rcases hX with ⟨h, rfl⟩ | ⟨h, _⟩
    · simp only [nanB]
      simp
      omega
    · omega

theorem nan_other (t : Int) (zs : List Int) (hk : kindN t ≠ 4) : nanB t zs = false := by
  unfold nanB
  have h8 : t ≠ 8 := fun h => hk (by rw [h]; decide)
  have h17 : t ≠ 17 := fun h => hk (by rw [h]; decide)
  simp [h8, h17]

set_option maxHeartbeats 2000000 in
set_option maxRecDepth 100000 in
theorem hasPlace_any (t : Int) (a : Option Addr) (len cap : Nat) (zs : List Int) (w : World) (hr : Row w a len zs) (hT : Tab64 w) (hlc : len ≤ cap) (hcm : cap ≤ maxLen) :
    Calls Tryz.prog 17 #[.int .u8 t, .slice a len cap] w fun e w' => e = .returned (.bool (placeB t zs)) ∧ Below w.heap.size w w' := by
  by_cases k6 : kindN t = 6
  · have b6 : (kindN t == 6) = true := by simp [k6]
    have H : Hid (placeB t zs = false) := by show placeB t zs = false; simp [placeB, k6]
    clear k6
    go_enter Tryz.func17, Tryz.ntmps17
    go_wp2_with fail
    refine (kindOf_any _ _).mono ?_
    rintro e w' ⟨rfl, rfl⟩
    go_wp2_with fail
    go_ret
    exact ⟨ret_bool H.out.symm, Below.refl _ _⟩
  have b6 : (kindN t == 6) = false := by simp [k6]
  by_cases k7 : kindN t = 7
  · have b7 : (kindN t == 7) = true := by simp [k7]
    have H : Hid (placeB t zs = false) := by show placeB t zs = false; simp [placeB, k7]
    clear k7 k6
    go_enter Tryz.func17, Tryz.ntmps17
    go_wp2_with fail
    refine (kindOf_any _ _).mono ?_
    rintro e w' ⟨rfl, rfl⟩
    go_wp2_with fail
    go_ret
    exact ⟨ret_bool H.out.symm, Below.refl _ _⟩
  have b7 : (kindN t == 7) = false := by simp [k7]
  by_cases c0 : cbN t zs = 0
  · have bc : (cbN t zs != 0) = false := by simp [c0]
    by_cases k4 : kindN t = 4
    · have b4 : (kindN t == 4) = true := by simp [k4]
      have hs := float_types t k4
      have hl := cb_len t zs c0 (by omega)
      have hlen : len = 4 ∨ len = 8 := by rw [hr.size] at hl; omega
      have HP : Hid (placeB t zs = !nanB t zs) := by show placeB t zs = !nanB t zs; simp [placeB, c0, k4]
      have HN : Hid (∀ X, FWord zs X → (Ieee.double.order X X != some .eq) = nanB t zs) := fun X hX => nan_float t zs X hr.oct k4 hl hX
      clear k4 k6 k7 c0 hs hl
      go_enter Tryz.func17, Tryz.ntmps17
      go_wp2_with fail
      refine (kindOf_any _ _).mono ?_
      rintro e w' ⟨rfl, rfl⟩
      go_wp2_with fail
      refine (checkBytes_any _ _ _ _ zs _ hr hlc hcm).mono ?_
      rintro e w' ⟨rfl, rfl⟩
      go_wp2_with fail
      refine (floatOf_any _ _ _ zs _ hr hT hlen).mono ?_
      rintro e w1 ⟨X, rfl, hX, hb⟩
      go_wp2_with fail
      refine (isNaN_any _ _).mono ?_
      rintro e w2 ⟨rfl, rfl⟩
      go_wp2_with fail
      go_ret
      exact ⟨ret_bool (by rw [HP.out, ← HN.out X hX]), hb⟩
    · have b4 : (kindN t == 4) = false := by simp [k4]
      have H : Hid (placeB t zs = true) := by show placeB t zs = true; simp [placeB, c0, k6, k7, nan_other t zs k4]
      clear k4 k6 k7 c0
      go_enter Tryz.func17, Tryz.ntmps17
      go_wp2_with fail
      refine (kindOf_any _ _).mono ?_
      rintro e w' ⟨rfl, rfl⟩
      go_wp2_with fail
      refine (checkBytes_any _ _ _ _ zs _ hr hlc hcm).mono ?_
      rintro e w' ⟨rfl, rfl⟩
      go_wp2_with fail
      go_ret
      exact ⟨ret_bool H.out.symm, Below.refl _ _⟩
  · have bc : (cbN t zs != 0) = true := by simp [c0]
    have H : Hid (placeB t zs = false) := by show placeB t zs = false; simp [placeB, c0]
    clear k6 k7 c0
    go_enter Tryz.func17, Tryz.ntmps17
    go_wp2_with fail
    refine (kindOf_any _ _).mono ?_
    rintro e w' ⟨rfl, rfl⟩
    go_wp2_with fail
    refine (checkBytes_any _ _ _ _ zs _ hr hlc hcm).mono ?_
    rintro e w' ⟨rfl, rfl⟩
    go_wp2_with fail
    go_ret
    exact ⟨ret_bool H.out.symm, Below.refl _ _⟩
end Go.Proofs.YtkfmmpolcjbnbaaGreatDoor
namespace Go.Proofs.YtkfmmpolcjbnbaaGreatDoor
open Pl Go.RowKit

/-- A float's place: its sign and rung, -0 below 0. -/
def fkey (bits : Nat) (n : Int) : Int := if n < 2 ^ (bits - 1) then n else -(n - 2 ^ (bits - 1)) - 1

/-- A value's place in its type's order. -/
def ordK (t : Int) (zs : List Int) : Int := if kindN t = 2 then sgN zs.length (num zs) else if kindN t = 4 then fkey (8 * zs.length) (num zs) else num zs

theorem cmpN_congr {a b c d : Int} (h1 : a < b ↔ c < d) (h2 : b < a ↔ d < c) : cmpN a b = cmpN c d := by
  unfold cmpN; simp only [h1, h2]

/-- The sign and rung of a word as one number, -0 below 0. -/
def wkey (X : Nat) : Int := if X < 9223372036854775808 then (X : Int) else -((X : Int) - 9223372036854775808) - 1

theorem some_lt (a b : Int) : (some (compare a b) = some Ordering.lt) ↔ a < b := by
  simp only [Option.some.injEq, compare, compareOfLessAndEq]
  repeat' split
  all_goals first | simp; done | (simp; omega)
theorem some_gt (a b : Int) : (some (compare a b) = some Ordering.gt) ↔ b < a := by
  simp only [Option.some.injEq, compare, compareOfLessAndEq]
  repeat' split
  all_goals first | simp; done | (simp; omega)

theorem skey_neg (X : Nat) (h : 9223372036854775808 ≤ X) (h' : X < 18446744073709551616) : skey Ieee.double X = -((X : Int) - 9223372036854775808) := by
  have e1 : Ieee.double.signWeight = 9223372036854775808 := by decide
  unfold skey; rw [e1, if_pos (by simp; omega)]; omega
theorem skey_pos (X : Nat) (h : X < 9223372036854775808) : skey Ieee.double X = (X : Int) := by
  have e1 : Ieee.double.signWeight = 9223372036854775808 := by decide
  unfold skey; rw [e1, if_neg (by simp; omega)]; omega

theorem cmpF_key (X Y : Nat) (hX : X < 18446744073709551616) (hY : Y < 18446744073709551616) (nX : X % 9223372036854775808 ≤ 9218868437227405312) (nY : Y % 9223372036854775808 ≤ 9218868437227405312) :
    cmpF X Y = cmpN (wkey X) (wkey Y) := by
  have e1 : Ieee.double.signWeight = 9223372036854775808 := by decide
  have e2 : Ieee.double.infRung = 9218868437227405312 := by decide
  have e3 : Ieee.double.binade = 4503599627370496 := by decide
  unfold cmpF
  rw [order_words Ieee.double (by rw [e3]; omega) (by rw [e2, e3]; omega) X Y (by rw [e1, e2]; exact nX) (by rw [e1, e2]; exact nY)]
  simp only [some_lt, some_gt]
  unfold wkey
  by_cases h : X < 9223372036854775808
  all_goals by_cases h' : Y < 9223372036854775808
  · rw [skey_pos X h, skey_pos Y h', if_pos h, if_pos h', show (X : Int) / 9223372036854775808 = 0 from by omega, show (Y : Int) / 9223372036854775808 = 0 from by omega]
    rfl
  · rw [skey_pos X h, skey_neg Y (by omega) hY, if_pos h, if_neg h', show (X : Int) / 9223372036854775808 = 0 from by omega, show (Y : Int) / 9223372036854775808 = 1 from by omega]
    unfold cmpN
    repeat' split
    all_goals omega
  · rw [skey_neg X (by omega) hX, skey_pos Y h', if_neg h, if_pos h', show (X : Int) / 9223372036854775808 = 1 from by omega, show (Y : Int) / 9223372036854775808 = 0 from by omega]
    unfold cmpN
    repeat' split
    all_goals omega
  · rw [skey_neg X (by omega) hX, skey_neg Y (by omega) hY, if_neg h, if_neg h', show (X : Int) / 9223372036854775808 = 1 from by omega, show (Y : Int) / 9223372036854775808 = 1 from by omega]
    unfold cmpN
    repeat' split
    all_goals omega

/-- The places of two floats that are no NaN stand to each other as those of their words. -/
theorem word_key (t : Int) (a b : List Int) (X Y : Nat) (oa : Oct a) (ob : Oct b) (hk : kindN t = 4) (la : (a.length : Int) = sizeN t) (lb : (b.length : Int) = sizeN t)
    (na : nanB t a = false) (nb : nanB t b = false) (hX : FWord a X) (hY : FWord b Y) : cmpF X Y = cmpN (fkey (8 * a.length) (num a)) (fkey (8 * b.length) (num b)) := by
  have ba := num_bd a oa
  have bb := num_bd b ob
  rcases float_types t hk with ⟨rfl, hs⟩ | ⟨rfl, hs⟩
  · have l1 : a.length = 4 := by omega
    have l2 : b.length = 4 := by omega
    rcases hX with ⟨h, _⟩ | ⟨_, R, hR, hc⟩
    · omega
    rcases hY with ⟨h, _⟩ | ⟨_, S, hS, hd⟩
    · omega
    rw [l1] at ba ⊢
    rw [l2] at bb ⊢
    simp only [Nat.reduceMul, Int.reducePow] at ba bb
    simp [nanB] at na nb
    obtain ⟨n, hn⟩ := Int.eq_ofNat_of_zero_le ba.1
    obtain ⟨m, hm⟩ := Int.eq_ofNat_of_zero_le bb.1
    rw [hn] at ba na hR hc ⊢
    rw [hm] at bb nb hS hd ⊢
    rw [Int.toNat_natCast] at hR hc hS hd
    have key : (R < S ↔ n % 2147483648 < m % 2147483648) ∧ (S < R ↔ m % 2147483648 < n % 2147483648) ∧ R ≤ 9218868437227405312 ∧ S ≤ 9218868437227405312 := by
      have B1 : 1 < 2 ^ 52 := by decide
      have B2 : 1 < 2 ^ 23 := by decide
      have P := Nat.two_pow_pos 925
      rcases hc with ⟨c1, c2, c3⟩ | ⟨c1, c2⟩ | ⟨c1, c2⟩
      · rcases hd with ⟨d1, d2, d3⟩ | ⟨d1, d2⟩ | ⟨d1, d2⟩
        · have f1 := fval_lt (2 ^ 52) R S B1
          have f2 := fval_lt (2 ^ 52) S R B1
          have f3 := fval_lt (2 ^ 23) (n % 2147483648) (m % 2147483648) B2
          have f4 := fval_lt (2 ^ 23) (m % 2147483648) (n % 2147483648) B2
          rw [c3, d3] at f1 f2
          rw [Nat.mul_lt_mul_right P] at f1 f2
          rw [← f1, ← f2, f3, f4]
          omega
        · omega
        · omega
      · rcases hd with ⟨d1, d2, d3⟩ | ⟨d1, d2⟩ | ⟨d1, d2⟩
        · omega
        · omega
        · omega
      · omega
    rw [cmpF_key X Y (by omega) (by omega) (by omega) (by omega)]
    refine cmpN_congr ?_ ?_
    all_goals
      unfold wkey fkey
      simp only [Nat.reduceMul, Nat.reduceSub, Int.reducePow]
      repeat' split
      all_goals omega
  · have l1 : a.length = 8 := by omega
    have l2 : b.length = 8 := by omega
    rcases hX with ⟨_, rfl⟩ | ⟨h, _⟩
    rcases hY with ⟨_, rfl⟩ | ⟨h, _⟩
    rotate_left
    · omega
    · omega
    rw [l1] at ba ⊢
    rw [l2] at bb ⊢
    simp only [Nat.reduceMul, Int.reducePow] at ba bb
    simp [nanB] at na nb
    rw [cmpF_key _ _ (by omega) (by omega) (by omega) (by omega)]
    refine cmpN_congr ?_ ?_
    all_goals
      unfold wkey fkey
      simp only [Nat.reduceMul, Nat.reduceSub, Int.reducePow]
      repeat' split
      all_goals omega

/-- What Compare tells. -/
def compR (t : Int) (a b : List Int) : Int := if placeB t a = true ∧ placeB t b = true then cmpN (ordK t a) (ordK t b) else 0
def compB (t : Int) (a b : List Int) : Bool := placeB t a && placeB t b
end Go.Proofs.YtkfmmpolcjbnbaaGreatDoor
