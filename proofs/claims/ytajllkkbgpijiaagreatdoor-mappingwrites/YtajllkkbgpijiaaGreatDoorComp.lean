/-
  The walk of Compare: the order of two values.
-/
import Derived.Test.YtajllkkbgpijiaaGreatDoorPlace
namespace Go.Proofs.YtajllkkbgpijiaaGreatDoor.Ty
open Pl Go.RowKit

/-- A float's place: its sign and rung, -0 below 0. -/
def fkey (bits : Nat) (n : Int) : Int := if n < 2 ^ (bits - 1) then n else -(n - 2 ^ (bits - 1)) - 1

/-- A value's place in its type's order. -/
def ordK (t : Int) (zs : List Int) : Int := if kindN t = 2 then sgN zs.length (num zs) else if kindN t = 4 then fkey (8 * zs.length) (num zs) else num zs

theorem cmpN_congr {a b c d : Int} (h1 : a < b ↔ c < d) (h2 : b < a ↔ d < c) : cmpN a b = cmpN c d := by
  unfold cmpN; simp only [h1, h2]

/-- The sign and rung of a word as one number, -0 below 0. -/
def wkey (X : Nat) : Int := if X < 9223372036854775808 then (X : Int) else -((X : Int) - 9223372036854775808) - 1

theorem some_lt (a b : Int) : (some (compare a b) = some Ordering.lt) ↔ a < b := by
  simp only [Option.some.injEq, compare, compareOfLessAndEq]
  repeat' split
  all_goals first | simp; done | (simp; omega)
theorem some_gt (a b : Int) : (some (compare a b) = some Ordering.gt) ↔ b < a := by
  simp only [Option.some.injEq, compare, compareOfLessAndEq]
  repeat' split
  all_goals first | simp; done | (simp; omega)

theorem skey_neg (X : Nat) (h : 9223372036854775808 ≤ X) (h' : X < 18446744073709551616) : skey Ieee.double X = -((X : Int) - 9223372036854775808) := by
  have e1 : Ieee.double.signWeight = 9223372036854775808 := by decide
  unfold skey; rw [e1, if_pos (by simp; omega)]; omega
theorem skey_pos (X : Nat) (h : X < 9223372036854775808) : skey Ieee.double X = (X : Int) := by
  have e1 : Ieee.double.signWeight = 9223372036854775808 := by decide
  unfold skey; rw [e1, if_neg (by simp; omega)]; omega

theorem cmpF_key (X Y : Nat) (hX : X < 18446744073709551616) (hY : Y < 18446744073709551616) (nX : X % 9223372036854775808 ≤ 9218868437227405312) (nY : Y % 9223372036854775808 ≤ 9218868437227405312) :
    cmpF X Y = cmpN (wkey X) (wkey Y) := by
  have e1 : Ieee.double.signWeight = 9223372036854775808 := by decide
  have e2 : Ieee.double.infRung = 9218868437227405312 := by decide
  have e3 : Ieee.double.binade = 4503599627370496 := by decide
  unfold cmpF
  rw [order_words Ieee.double (by rw [e3]; omega) (by rw [e2, e3]; omega) X Y (by rw [e1, e2]; exact nX) (by rw [e1, e2]; exact nY)]
  simp only [some_lt, some_gt]
  unfold wkey
  by_cases h : X < 9223372036854775808
  all_goals by_cases h' : Y < 9223372036854775808
  · rw [skey_pos X h, skey_pos Y h', if_pos h, if_pos h', show (X : Int) / 9223372036854775808 = 0 from by omega, show (Y : Int) / 9223372036854775808 = 0 from by omega]
    rfl
  · rw [skey_pos X h, skey_neg Y (by omega) hY, if_pos h, if_neg h', show (X : Int) / 9223372036854775808 = 0 from by omega, show (Y : Int) / 9223372036854775808 = 1 from by omega]
    unfold cmpN
    repeat' split
    all_goals omega
  · rw [skey_neg X (by omega) hX, skey_pos Y h', if_neg h, if_pos h', show (X : Int) / 9223372036854775808 = 1 from by omega, show (Y : Int) / 9223372036854775808 = 0 from by omega]
    unfold cmpN
    repeat' split
    all_goals omega
  · rw [skey_neg X (by omega) hX, skey_neg Y (by omega) hY, if_neg h, if_neg h', show (X : Int) / 9223372036854775808 = 1 from by omega, show (Y : Int) / 9223372036854775808 = 1 from by omega]
    unfold cmpN
    repeat' split
    all_goals omega

/-- The places of two floats that are no NaN stand to each other as those of their words. -/
theorem word_key (t : Int) (a b : List Int) (X Y : Nat) (oa : Oct a) (ob : Oct b) (hk : kindN t = 4) (la : (a.length : Int) = sizeN t) (lb : (b.length : Int) = sizeN t)
    (na : nanB t a = false) (nb : nanB t b = false) (hX : FWord a X) (hY : FWord b Y) : cmpF X Y = cmpN (fkey (8 * a.length) (num a)) (fkey (8 * b.length) (num b)) := by
  have ba := num_bd a oa
  have bb := num_bd b ob
  rcases float_types t hk with ⟨rfl, hs⟩ | ⟨rfl, hs⟩
  · have l1 : a.length = 4 := by omega
    have l2 : b.length = 4 := by omega
    rcases hX with ⟨h, _⟩ | ⟨_, R, hR, hc⟩
    · omega
    rcases hY with ⟨h, _⟩ | ⟨_, S, hS, hd⟩
    · omega
    rw [l1] at ba ⊢
    rw [l2] at bb ⊢
    simp only [Nat.reduceMul, Int.reducePow] at ba bb
    simp [nanB] at na nb
    obtain ⟨n, hn⟩ := Int.eq_ofNat_of_zero_le ba.1
    obtain ⟨m, hm⟩ := Int.eq_ofNat_of_zero_le bb.1
    rw [hn] at ba na hR hc ⊢
    rw [hm] at bb nb hS hd ⊢
    rw [Int.toNat_natCast] at hR hc hS hd
    have key : (R < S ↔ n % 2147483648 < m % 2147483648) ∧ (S < R ↔ m % 2147483648 < n % 2147483648) ∧ R ≤ 9218868437227405312 ∧ S ≤ 9218868437227405312 := by
      have B1 : 1 < 2 ^ 52 := by decide
      have B2 : 1 < 2 ^ 23 := by decide
      have P := Nat.two_pow_pos 925
      rcases hc with ⟨c1, c2, c3⟩ | ⟨c1, c2⟩ | ⟨c1, c2⟩
      · rcases hd with ⟨d1, d2, d3⟩ | ⟨d1, d2⟩ | ⟨d1, d2⟩
        · have f1 := fval_lt (2 ^ 52) R S B1
          have f2 := fval_lt (2 ^ 52) S R B1
          have f3 := fval_lt (2 ^ 23) (n % 2147483648) (m % 2147483648) B2
          have f4 := fval_lt (2 ^ 23) (m % 2147483648) (n % 2147483648) B2
          rw [c3, d3] at f1 f2
          rw [Nat.mul_lt_mul_right P] at f1 f2
          rw [← f1, ← f2, f3, f4]
          omega
        · omega
        · omega
      · rcases hd with ⟨d1, d2, d3⟩ | ⟨d1, d2⟩ | ⟨d1, d2⟩
        · omega
        · omega
        · omega
      · omega
    rw [cmpF_key X Y (by omega) (by omega) (by omega) (by omega)]
    refine cmpN_congr ?_ ?_
    all_goals
      unfold wkey fkey
      simp only [Nat.reduceMul, Nat.reduceSub, Int.reducePow]
      repeat' split
      all_goals omega
  · have l1 : a.length = 8 := by omega
    have l2 : b.length = 8 := by omega
    rcases hX with ⟨_, rfl⟩ | ⟨h, _⟩
    rcases hY with ⟨_, rfl⟩ | ⟨h, _⟩
    rotate_left
    · omega
    · omega
    rw [l1] at ba ⊢
    rw [l2] at bb ⊢
    simp only [Nat.reduceMul, Int.reducePow] at ba bb
    simp [nanB] at na nb
    rw [cmpF_key _ _ (by omega) (by omega) (by omega) (by omega)]
    refine cmpN_congr ?_ ?_
    all_goals
      unfold wkey fkey
      simp only [Nat.reduceMul, Nat.reduceSub, Int.reducePow]
      repeat' split
      all_goals omega

/-- What Compare tells. -/
def compR (t : Int) (a b : List Int) : Int := if placeB t a = true ∧ placeB t b = true then cmpN (ordK t a) (ordK t b) else 0
def compB (t : Int) (a b : List Int) : Bool := placeB t a && placeB t b
end Go.Proofs.YtajllkkbgpijiaaGreatDoor.Ty
