/-
  Plain facts on numbers without a sign, out of decimal digits and out of digits to the base 16.
-/
import Derived.Test.YtkfmmpolcjbnbaaGreatDoorWhl1
namespace Go.Proofs.YtkfmmpolcjbnbaaGreatDoor
open Pl Go.RowKit

/-- The digits that the statement takes, small and great ones. -/
def hexG (d : Nat) : UInt8 := ([48, 49, 50, 51, 52, 53, 54, 55, 56, 57, 97, 66, 99, 68, 101, 70] : List UInt8).getD d 0
theorem hexG_all : ((List.range 16).all fun d => hexC true (hexG d).toNat == some d) = true := by decide +kernel
theorem hexG_is (d : Nat) (h : d < 16) : hexC true (hexG d).toNat = some d := by
  have := List.all_eq_true.1 hexG_all d (List.mem_range.2 h)
  simpa using this

theorem hexF_shift (g : Bool) : ∀ (l : List UInt8) (a : Nat), hexF g a l = (hexF g 0 l).map fun r => a * 16 ^ l.length + r
  | [], a => by simp [hexF]
  | c :: l, a => by
    simp only [hexF]
    cases hexC g c.toNat with
    | none => rfl
    | some d =>
      show hexF g (16 * a + d) l = (hexF g (16 * 0 + d) l).map _
      rw [hexF_shift g l (16 * a + d), hexF_shift g l (16 * 0 + d)]
      cases hexF g 0 l with
      | none => rfl
      | some r =>
        show some ((16 * a + d) * 16 ^ l.length + r) = some (a * 16 ^ (l.length + 1) + ((16 * 0 + d) * 16 ^ l.length + r))
        congr 1
        rw [Nat.pow_succ, Nat.mul_zero, Nat.zero_add, Nat.add_mul, Nat.mul_comm 16 a, Nat.mul_assoc, Nat.mul_comm 16 (16 ^ l.length), Nat.add_assoc]
theorem hex_cons (X : List UInt8) (M k d : Nat) (hl : X.length = k) (h : hexF true 0 X = some (M % 16 ^ k)) (hd : M / 16 ^ k % 16 = d) : hexF true 0 (hexG d :: X) = some (M % 16 ^ (k + 1)) := by
  have hlt : d < 16 := by omega
  simp only [hexF, hexG_is d hlt]
  show hexF true (16 * 0 + d) X = _
  rw [hexF_shift true X (16 * 0 + d), h, hl]
  show some ((16 * 0 + d) * 16 ^ k + M % 16 ^ k) = _
  congr 1
  rw [Nat.pow_succ, Nat.mod_mul, hd, Nat.mul_zero, Nat.zero_add, Nat.mul_comm, Nat.add_comm]

theorem unsV_hex (most M : Nat) (X : List UInt8) (hl : X.length = 16) (h : hexF true 0 X = some M) (hm : M ≤ most) : unsV most (48 :: 120 :: X) = some M := by
  have hp : Lib.hasPrefix (48 :: 120 :: X) [48, 120] = true := by unfold Lib.hasPrefix; simp [List.isPrefixOf]
  have ht : Lib.trimPrefix (48 :: 120 :: X) [48, 120] = X := by unfold Lib.trimPrefix; rw [if_pos hp]; rfl
  unfold unsV
  rw [if_pos hp, ht, if_pos (by omega), h]
  show (if M ≤ most then some M else none) = _
  rw [if_pos hm]

theorem uns_int (t : Int) (l : List UInt8) (s : Nat) (hs : sizeN t = (s : Int)) (hk : kindN t = 3) : intV t l = (unsV (2 ^ (8 * s) - 1) l).map fun n => bytesL (n : Int) s := by
  have k2 : ¬ kindN t = 2 := by omega
  unfold intV; rw [if_neg k2, hs, Int.toNat_natCast]
theorem uns_back (t : Int) (M s : Nat) (_h1 : 1 ≤ s) (hs : sizeN t = (s : Int)) (hk : kindN t = 3) (hM : M < 2 ^ (8 * s)) :
    intV t (Lib.decDigits M) = some (bytesL (M : Int) s) ∧ intV t (Lib.decDigits (2 ^ (8 * s))) = none ∧ intV t [45, 49] = none ∧
    ∀ X : List UInt8, X.length = 16 → hexF true 0 X = some M → intV t (48 :: 120 :: X) = some (bytesL (M : Int) s) := by
  have hpos := Nat.two_pow_pos (8 * s)
  have k2 : ¬ kindN t = 2 := by omega
  have e : ∀ l, intV t l = (unsV (2 ^ (8 * s) - 1) l).map fun n => bytesL (n : Int) s := fun l => by unfold intV; rw [if_neg k2, hs, Int.toNat_natCast]
  refine ⟨?_, ?_, ?_, fun X hl h => ?_⟩
  · rw [e, unsV_dec, if_pos (by omega)]; rfl
  · rw [e, unsV_dec, if_neg (by omega)]; rfl
  · rw [e]
    have : unsV (2 ^ (8 * s) - 1) [45, 49] = none := by
      unfold unsV
      rw [if_neg (by decide), decV_good _ _ (.inr (by decide))]
      show (decStep _ 0 45).bind _ = none
      unfold decStep
      rw [if_neg (by omega)]; rfl
    rw [this]; rfl
  · rw [e, unsV_hex _ M X hl h (by omega)]; rfl
theorem big_none : unsV 18446744073709551615 [49, 56, 52, 52, 54, 55, 52, 52, 48, 55, 51, 55, 48, 57, 53, 53, 49, 54, 49, 54] = none := by decide +kernel

theorem slice16 (d : Int) (h0 : 0 ≤ d) (h1 : d < 16) (w : World) : (Instr.slice 9 (.string ⟨#[48, 49, 50, 51, 52, 53, 54, 55, 56, 57, 97, 66, 99, 68, 101, 70]⟩) (some (.int .u64 d)) (some (.int .u64 (d + 1))) none).run Tryz.prog w = .ok (.string (str [hexG d.toNat])) w := by
  have : d = 0 ∨ d = 1 ∨ d = 2 ∨ d = 3 ∨ d = 4 ∨ d = 5 ∨ d = 6 ∨ d = 7 ∨ d = 8 ∨ d = 9 ∨ d = 10 ∨ d = 11 ∨ d = 12 ∨ d = 13 ∨ d = 14 ∨ d = 15 := by omega
  rcases this with rfl | rfl | rfl | rfl | rfl | rfl | rfl | rfl | rfl | rfl | rfl | rfl | rfl | rfl | rfl | rfl <;>
    (rw [run_slice_string w 9 _ .u64 .u64 _ _ Tryz.underlying9 (by decide) (by decide) (by decide)]; rfl)
#print axioms uns_back
#print axioms slice16
end Go.Proofs.YtkfmmpolcjbnbaaGreatDoor
