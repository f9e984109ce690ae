/-
  Plain facts on reading decimal digits: what is told is read.
-/
import Derived.Test.YtkfmmpolcjbnbaaDoorValI
import Derived.Test.YtkfmmpolcjbnbaaDoorFl2
namespace Go.Proofs.YtkfmmpolcjbnbaaDoor
open Pl Go.RowKit

theorem digit_byte (d : Nat) (h : d < 10) : (UInt8.ofNat (48 + d)).toNat = 48 + d := by simp; omega

theorem decDig_small (u : Nat) (h : u < 10) : Lib.decDigits u = [UInt8.ofNat (48 + u)] := by rw [Lib.decDigits, dif_pos h]
theorem decDig_step (u : Nat) (h : ¬ u < 10) : Lib.decDigits u = Lib.decDigits (u / 10) ++ [UInt8.ofNat (48 + u % 10)] := by rw [Lib.decDigits, dif_neg h]

/-- A number but 0 has no nought ahead, and only digits. -/
theorem dec_head (u : Nat) : u ≠ 0 → ∃ c r, Lib.decDigits u = c :: r ∧ 49 ≤ c.toNat ∧ c.toNat ≤ 57 := by
  induction u using Nat.strongRecOn with
  | _ u ih =>
    intro h0
    by_cases h : u < 10
    · rw [decDig_small u h]
      exact ⟨_, _, rfl, by rw [digit_byte u h]; omega, by rw [digit_byte u h]; omega⟩
    · obtain ⟨c, r, e, h1, h2⟩ := ih (u / 10) (by omega) (by omega)
      rw [decDig_step u h, e]
      exact ⟨c, r ++ [UInt8.ofNat (48 + u % 10)], rfl, h1, h2⟩

theorem decFold_dec (most u : Nat) : decFold most 0 (Lib.decDigits u) = if u ≤ most then some u else none := by
  induction u using Nat.strongRecOn with
  | _ u ih =>
    by_cases h : u < 10
    · rw [decDig_small u h]
      show (decStep most 0 (UInt8.ofNat (48 + u)).toNat).bind _ = _
      rw [digit_byte u h]
      unfold decStep
      by_cases hu : u ≤ most
      · rw [if_pos (by omega), if_pos hu]
        show some (10 * 0 + (48 + u - 48)) = some u
        congr 1
        omega
      · rw [if_neg (by omega), if_neg hu]; rfl
    · rw [decDig_step u h, decFold_snoc, ih (u / 10) (by omega), digit_byte (u % 10) (by omega)]
      by_cases h1 : u / 10 ≤ most
      · rw [if_pos h1]
        show decStep most (u / 10) (48 + u % 10) = _
        unfold decStep
        by_cases hu : u ≤ most
        · rw [if_pos (by omega), if_pos hu]
          congr 1
          omega
        · rw [if_neg (by omega), if_neg hu]
      · rw [if_neg h1, if_neg (by omega)]; rfl

theorem decV_dec (most u : Nat) : decV most (Lib.decDigits u) = if u ≤ most then some u else none := by
  rw [← decFold_dec]
  refine decV_good most _ ?_
  by_cases h0 : u = 0
  · subst h0
    exact .inl (decDig_small 0 (by decide))
  · obtain ⟨c, r, e, h1, _⟩ := dec_head u h0
    rw [e]
    refine .inr ⟨by simp, ?_⟩
    simp
    intro h
    rw [h] at h1
    exact absurd h1 (by decide)

theorem unsV_dec (most u : Nat) : unsV most (Lib.decDigits u) = if u ≤ most then some u else none := by
  have hp : Lib.hasPrefix (Lib.decDigits u) [48, 120] = false := by
    by_cases h0 : u = 0
    · subst h0
      rw [decDig_small 0 (by decide)]
      decide
    · obtain ⟨c, r, e, h1, _⟩ := dec_head u h0
      rw [e]
      have hc : (48 == c) = false := by
        rw [beq_eq_false_iff_ne]
        rintro rfl
        exact absurd h1 (by decide)
      unfold Lib.hasPrefix
      simp [List.isPrefixOf, hc]
  unfold unsV
  rw [if_neg (by rw [hp]; decide), decV_dec]

theorem sgnV_pos (below above u : Nat) : sgnV below above (Lib.decDigits u) = if u ≤ above then some u else none := by
  unfold sgnV
  rw [if_neg, decV_dec]
  by_cases h0 : u = 0
  · subst h0
    rw [decDig_small 0 (by decide)]
    decide
  · obtain ⟨c, r, e, h1, _⟩ := dec_head u h0
    rw [e]
    simp
    rintro rfl
    exact absurd h1 (by decide)
theorem sgnV_neg (below above u : Nat) (h0 : u ≠ 0) : sgnV below above (45 :: Lib.decDigits u) = if u ≤ below then some (18446744073709551616 - u) else none := by
  unfold sgnV
  rw [if_pos (show (45 :: Lib.decDigits u).head? = some 45 from rfl), List.tail_cons, decV_dec]
  by_cases h : u ≤ below
  · rw [if_pos h, if_pos h]
    show (if u = 0 then none else some (18446744073709551616 - u)) = _
    rw [if_neg h0]
  · rw [if_neg h, if_neg h]; rfl

theorem bytesL_snoc (n : Int) (k : Nat) : bytesL n (k + 1) = bytesL n k ++ [n / 2 ^ (8 * k) % 256] := by
  simp [bytesL, List.range_succ]
theorem num_bytes (n : Nat) : ∀ k, num (bytesL (n : Int) k) = ((n % 2 ^ (8 * k) : Nat) : Int)
  | 0 => by simp [bytesL, num, Nat.mod_one]
  | k + 1 => by
    rw [bytesL_snoc, num_snoc, num_bytes n k, bytesL_length]
    have e : (2 : Int) ^ (8 * k) = ((2 ^ (8 * k) : Nat) : Int) := (Int.natCast_pow 2 (8 * k)).symm
    rw [e, Nat.mul_add, Nat.pow_add, Nat.mod_mul]
    generalize 2 ^ (8 * k) = P
    rw [show (2 : Nat) ^ (8 * 1) = 256 from rfl, show ((n : Int) / (P : Int)) % 256 = ((n / P % 256 : Nat) : Int) from by rw [Int.natCast_emod, Int.natCast_ediv]; rfl]
    generalize n / P % 256 = q
    rw [Int.natCast_add, Int.natCast_mul, Int.mul_comm (P : Int)]
theorem num_same : ∀ (a b : List Int), Oct a → Oct b → a.length = b.length → num a = num b → a = b
  | [], [], _, _, _, _ => rfl
  | [], _ :: _, _, _, h, _ => by simp at h
  | _ :: _, [], _, _, h, _ => by simp at h
  | x :: a, y :: b, oa, ob, hl, hn => by
    have hx := oa x (by simp)
    have hy := ob y (by simp)
    simp only [num] at hn
    have e1 : x = y := by omega
    have e2 : num a = num b := by omega
    rw [e1, num_same a b (fun n hn => oa n (by simp [hn])) (fun n hn => ob n (by simp [hn])) (by simpa using hl) e2]
theorem bytes_mod (n m k : Nat) (h : n % 2 ^ (8 * k) = m % 2 ^ (8 * k)) : bytesL (n : Int) k = bytesL (m : Int) k :=
  num_same _ _ (bytesL_oct _ _) (bytesL_oct _ _) (by rw [bytesL_length, bytesL_length]) (by rw [num_bytes, num_bytes, h])

theorem ownRow {w : World} {B : Nat} {v : Value} {k : Nat} {xs : List Value} {zs : List Int} (h : w.ownsRow B 5 1 v k xs) (hz : xs = zs.map (Value.int .u8)) (ho : Oct zs) (hl : zs.length = k) :
    ∃ a cap, v = .slice a k cap ∧ k ≤ cap ∧ cap ≤ maxLen ∧ Row w a k zs := by
  rcases h.2 with ⟨rfl, rfl⟩ | ⟨g, cap, cur, rfl, hg, hc, hn, hm, hs, ht⟩
  · have : zs = [] := List.eq_nil_of_length_eq_zero hl
    subst this
    exact ⟨none, 0, rfl, Nat.le_refl _, by decide, row_nil w⟩
  · refine ⟨_, cap, rfl, hn, hm, ⟨hl, ho, fun _ => ⟨g, 0, rfl, fun i hi => ?_⟩⟩⟩
    have := h.cellAt i (by omega)
    rw [Nat.zero_add, this, hz]
    simp [List.getD_eq_getElem?_getD, hl, hi]
#print axioms sgnV_neg
#print axioms bytes_mod
end Go.Proofs.YtkfmmpolcjbnbaaDoor
