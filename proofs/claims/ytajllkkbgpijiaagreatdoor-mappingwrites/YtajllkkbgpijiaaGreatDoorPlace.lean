/-
  The walks of signedNumber and hasPlace: whether a value has a place in its type's order.
-/
import Derived.Test.YtajllkkbgpijiaaGreatDoorFOf
namespace Go.Proofs.YtajllkkbgpijiaaGreatDoor.Ty
open Pl Go.RowKit

theorem Row.next {w w' : World} {a : Option Addr} {len : Nat} {zs : List Int} (h : Row w a len zs) (hb : Below w.heap.size w w') : Row w' a len zs where
  size := h.size
  oct := h.oct
  at_ := fun hp => by
    obtain ⟨b, off, e, hc⟩ := h.at_ hp
    exact ⟨b, off, e, fun i hi => by rw [hb.cell (h.old hp b off e)]; exact hc i hi⟩

/-- A number of so many bytes as one with a sign. -/
def sgN (len : Nat) (n : Int) : Int := if n < 2 ^ (8 * len - 1) then n else n - 2 ^ (8 * len)

theorem sg_walk (len : Nat) (n : Int) (h1 : 1 ≤ len) (h8 : len ≤ 8) (h0 : 0 ≤ n) (hn : n < 2 ^ (8 * len)) :
    wrap64 (IntKind.u64.wrap (n * 2 ^ (64 - 8 * len))) / 2 ^ (64 - 8 * len) = sgN len n := by
  have : len = 1 ∨ len = 2 ∨ len = 3 ∨ len = 4 ∨ len = 5 ∨ len = 6 ∨ len = 7 ∨ len = 8 := by omega
  rcases this with rfl | rfl | rfl | rfl | rfl | rfl | rfl | rfl
  all_goals
    simp only [sgN, wrap64, IntKind.wrap_u64]
    simp only [Nat.reduceMul, Nat.reduceSub, Int.reducePow] at hn ⊢
    split <;> omega

set_option maxHeartbeats 1000000 in
theorem signedNumber_any (a : Option Addr) (len cap : Nat) (zs : List Int) (w : World) (hr : Row w a len zs) (h1 : 1 ≤ len) (h8 : len ≤ 8) :
    Calls Tryz.prog 84 #[.slice a len cap] w fun e w' => e = .returned (.int .i64 (sgN len (num zs))) ∧ w' = w := by
  have hi1 : (1 : Int) ≤ (len : Int) := by omega
  have hi8 : (len : Int) ≤ 8 := by omega
  go_enter Tryz.func84, Tryz.ntmps84
  go_wp2_with fail
  refine (number_any _ _ _ zs _ hr h8).mono ?_
  rintro e w' ⟨rfl, rfl⟩
  go_wp2_with fail
  go_ret
  refine ⟨ret_int ?_, rfl⟩
  have hb := num_bd zs hr.oct
  rw [hr.size] at hb
  exact sg_walk len _ h1 h8 hb.1 hb.2

/-- Is it a NaN? -/
def nanB (t : Int) (zs : List Int) : Bool := (t == 8 && decide (2139095040 < num zs % 2147483648)) || (t == 17 && decide (9218868437227405312 < num zs % 9223372036854775808))

/-- Has it a place in its type's order? -/
def placeB (t : Int) (zs : List Int) : Bool := decide (cbN t zs = 0) && !(kindN t == 6) && !(kindN t == 7) && !nanB t zs

theorem order_self (X : Nat) : (Ieee.double.order X X != some .eq) = decide (9218868437227405312 < X % 9223372036854775808) := by
  have e1 : Ieee.double.signWeight = 9223372036854775808 := by decide
  have e2 : Ieee.double.infRung = 9218868437227405312 := by decide
  have e3 : Ieee.double.binade = 4503599627370496 := by decide
  by_cases h : 9218868437227405312 < X % 9223372036854775808
  · rw [order_nan_left Ieee.double X X (by rw [e2, e3]; omega) (by rw [e1, e2]; exact h)]
    simp [h]
  · rw [order_words Ieee.double (by rw [e3]; omega) (by rw [e2, e3]; omega) X X (by rw [e1, e2]; omega) (by rw [e1, e2]; omega)]
    simp [h]

theorem cb_len (t : Int) (zs : List Int) (h : cbN t zs = 0) (hs : 1 ≤ sizeN t) : (zs.length : Int) = sizeN t := by
  unfold cbN at h
  by_cases h0 : kindN t = 0
  · rw [if_pos h0] at h; omega
  rw [if_neg h0, if_neg (by omega : ¬ sizeN t = 0)] at h
  by_cases h1 : sizeN t < (zs.length : Int)
  · rw [if_pos h1] at h; omega
  rw [if_neg h1] at h
  by_cases h2 : (zs.length : Int) < sizeN t
  · rw [if_pos h2] at h; omega
  omega

theorem float_types (t : Int) (h : kindN t = 4) : (t = 8 ∧ sizeN t = 4) ∨ (t = 17 ∧ sizeN t = 8) := by
  rcases type_cases t with rfl | rfl | rfl | rfl | rfl | rfl | rfl | rfl | rfl | rfl | rfl | rfl | rfl | rfl | rfl | rfl | rfl | rfl | ⟨h', _⟩
  all_goals first | (exfalso; revert h; decide) | (left; exact ⟨rfl, by decide⟩) | (right; exact ⟨rfl, by decide⟩) | omega

theorem nan_float (t : Int) (zs : List Int) (X : Nat) (ho : Oct zs) (hk : kindN t = 4) (hl : (zs.length : Int) = sizeN t) (hX : FWord zs X) :
    (Ieee.double.order X X != some .eq) = nanB t zs := by
  rw [order_self]
  have hb := num_bd zs ho
  rcases float_types t hk with ⟨rfl, hs⟩ | ⟨rfl, hs⟩
  · rcases hX with ⟨h, _⟩ | ⟨h, R, hR, hc⟩
    · omega
    · rw [h] at hb
      simp only [Nat.reduceMul, Int.reducePow] at hb
      simp only [nanB]
      simp
      omega
  · rcases hX with ⟨h, rfl⟩ | ⟨h, _⟩
    · simp only [nanB]
      simp
      omega
    · omega

theorem nan_other (t : Int) (zs : List Int) (hk : kindN t ≠ 4) : nanB t zs = false := by
  unfold nanB
  have h8 : t ≠ 8 := fun h => hk (by rw [h]; decide)
  have h17 : t ≠ 17 := fun h => hk (by rw [h]; decide)
  simp [h8, h17]

set_option maxHeartbeats 2000000 in
set_option maxRecDepth 100000 in
theorem hasPlace_any (t : Int) (a : Option Addr) (len cap : Nat) (zs : List Int) (w : World) (hr : Row w a len zs) (hT : Tab64 w) (hlc : len ≤ cap) (hcm : cap ≤ maxLen) :
    Calls Tryz.prog 76 #[.int .u8 t, .slice a len cap] w fun e w' => e = .returned (.bool (placeB t zs)) ∧ Below w.heap.size w w' := by
  by_cases k6 : kindN t = 6
  · have b6 : (kindN t == 6) = true := by simp [k6]
    have H : Hid (placeB t zs = false) := by show placeB t zs = false; simp [placeB, k6]
    clear k6
    go_enter Tryz.func76, Tryz.ntmps76
    go_wp2_with fail
    refine (kindOf_any _ _).mono ?_
    rintro e w' ⟨rfl, rfl⟩
    go_wp2_with fail
    go_ret
    exact ⟨ret_bool H.out.symm, Below.refl _ _⟩
  have b6 : (kindN t == 6) = false := by simp [k6]
  by_cases k7 : kindN t = 7
  · have b7 : (kindN t == 7) = true := by simp [k7]
    have H : Hid (placeB t zs = false) := by show placeB t zs = false; simp [placeB, k7]
    clear k7 k6
    go_enter Tryz.func76, Tryz.ntmps76
    go_wp2_with fail
    refine (kindOf_any _ _).mono ?_
    rintro e w' ⟨rfl, rfl⟩
    go_wp2_with fail
    go_ret
    exact ⟨ret_bool H.out.symm, Below.refl _ _⟩
  have b7 : (kindN t == 7) = false := by simp [k7]
  by_cases c0 : cbN t zs = 0
  · have bc : (cbN t zs != 0) = false := by simp [c0]
    by_cases k4 : kindN t = 4
    · have b4 : (kindN t == 4) = true := by simp [k4]
      have hs := float_types t k4
      have hl := cb_len t zs c0 (by omega)
      have hlen : len = 4 ∨ len = 8 := by rw [hr.size] at hl; omega
      have HP : Hid (placeB t zs = !nanB t zs) := by show placeB t zs = !nanB t zs; simp [placeB, c0, k4]
      have HN : Hid (∀ X, FWord zs X → (Ieee.double.order X X != some .eq) = nanB t zs) := fun X hX => nan_float t zs X hr.oct k4 hl hX
      clear k4 k6 k7 c0 hs hl
      go_enter Tryz.func76, Tryz.ntmps76
      go_wp2_with fail
      refine (kindOf_any _ _).mono ?_
      rintro e w' ⟨rfl, rfl⟩
      go_wp2_with fail
      refine (checkBytes_any _ _ _ _ zs _ hr hlc hcm).mono ?_
      rintro e w' ⟨rfl, rfl⟩
      go_wp2_with fail
      refine (floatOf_any _ _ _ zs _ hr hT hlen).mono ?_
      rintro e w1 ⟨X, rfl, hX, hb⟩
      go_wp2_with fail
      refine (isNaN_any _ _).mono ?_
      rintro e w2 ⟨rfl, rfl⟩
      go_wp2_with fail
      go_ret
      exact ⟨ret_bool (by rw [HP.out, ← HN.out X hX]), hb⟩
    · have b4 : (kindN t == 4) = false := by simp [k4]
      have H : Hid (placeB t zs = true) := by show placeB t zs = true; simp [placeB, c0, k6, k7, nan_other t zs k4]
      clear k4 k6 k7 c0
      go_enter Tryz.func76, Tryz.ntmps76
      go_wp2_with fail
      refine (kindOf_any _ _).mono ?_
      rintro e w' ⟨rfl, rfl⟩
      go_wp2_with fail
      refine (checkBytes_any _ _ _ _ zs _ hr hlc hcm).mono ?_
      rintro e w' ⟨rfl, rfl⟩
      go_wp2_with fail
      go_ret
      exact ⟨ret_bool H.out.symm, Below.refl _ _⟩
  · have bc : (cbN t zs != 0) = true := by simp [c0]
    have H : Hid (placeB t zs = false) := by show placeB t zs = false; simp [placeB, c0]
    clear k6 k7 c0
    go_enter Tryz.func76, Tryz.ntmps76
    go_wp2_with fail
    refine (kindOf_any _ _).mono ?_
    rintro e w' ⟨rfl, rfl⟩
    go_wp2_with fail
    refine (checkBytes_any _ _ _ _ zs _ hr hlc hcm).mono ?_
    rintro e w' ⟨rfl, rfl⟩
    go_wp2_with fail
    go_ret
    exact ⟨ret_bool H.out.symm, Below.refl _ _⟩
end Go.Proofs.YtajllkkbgpijiaaGreatDoor.Ty
