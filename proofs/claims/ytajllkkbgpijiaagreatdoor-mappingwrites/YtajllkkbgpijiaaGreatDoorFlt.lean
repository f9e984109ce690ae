/-
  Plain facts on floats, of no program: the words of a format stand to each other as their signs and rungs do; what a rung is worth.
-/
import Ieee.Arith
namespace Go.Proofs.YtajllkkbgpijiaaGreatDoor.Ty.Pl
open Ieee

def fval (B r : Nat) : Nat := if r < B then r else (B + r % B) * 2 ^ (r / B - 1)

theorem fval_succ (B r : Nat) (hB : 1 < B) : fval B r < fval B (r + 1) := by
  unfold fval
  by_cases h1 : r + 1 < B
  · rw [if_pos (by omega), if_pos h1]; omega
  · rw [if_neg h1]
    by_cases h2 : r < B
    · have e : r + 1 = B := by omega
      rw [if_pos h2, e, Nat.mod_self, Nat.div_self (by omega)]; simp; omega
    · rw [if_neg h2]
      have hq : 1 ≤ r / B := (Nat.le_div_iff_mul_le (by omega)).2 (by omega)
      obtain ⟨q, hq'⟩ : ∃ q, r / B = q + 1 := ⟨r / B - 1, by omega⟩
      have hm : r % B < B := Nat.mod_lt _ (by omega)
      have hd := Nat.div_add_mod r B
      by_cases h3 : r % B + 1 < B
      · have e1 : (r + 1) % B = r % B + 1 := by
          have : r + 1 = B * (r / B) + (r % B + 1) := by omega
          rw [this, Nat.mul_add_mod, Nat.mod_eq_of_lt h3]
        have e2 : (r + 1) / B = r / B := by
          have : r + 1 = B * (r / B) + (r % B + 1) := by omega
          rw [this, Nat.mul_add_div (by omega), Nat.div_eq_of_lt h3]; rfl
        rw [e1, e2]
        exact Nat.mul_lt_mul_of_pos_right (by omega) (Nat.two_pow_pos _)
      · have e0 : r % B + 1 = B := by omega
        have e3 : r + 1 = B * (r / B + 1) := by rw [Nat.mul_add]; omega
        have e1 : (r + 1) % B = 0 := by rw [e3]; exact Nat.mul_mod_right _ _
        have e2 : (r + 1) / B = r / B + 1 := by rw [e3]; exact Nat.mul_div_cancel_left _ (by omega)
        rw [e1, e2, hq']
        have : 2 ^ (q + 1 + 1 - 1) = 2 ^ q * 2 := by rw [show q + 1 + 1 - 1 = q + 1 from by omega, Nat.pow_succ]
        rw [this, show q + 1 - 1 = q from by omega]
        have hp : 0 < 2 ^ q := Nat.two_pow_pos _
        have : (B + r % B) * 2 ^ q < (2 * B) * 2 ^ q := Nat.mul_lt_mul_of_pos_right (by omega) hp
        have e4 : (B + 0) * (2 ^ q * 2) = (2 * B) * 2 ^ q := by rw [Nat.add_zero, Nat.mul_comm (2 ^ q) 2, ← Nat.mul_assoc, Nat.mul_comm B 2]
        omega

theorem fval_mono (B : Nat) (hB : 1 < B) : ∀ (d r : Nat), fval B r < fval B (r + d + 1)
  | 0, r => fval_succ B r hB
  | d + 1, r => Nat.lt_trans (fval_mono B hB d r) (fval_succ B (r + d + 1) hB)

theorem fval_lt (B r s : Nat) (hB : 1 < B) : fval B r < fval B s ↔ r < s := by
  constructor
  · intro h
    rcases Nat.lt_trichotomy r s with h1 | h1 | h1
    · exact h1
    · subst h1; omega
    · obtain ⟨d, rfl⟩ : ∃ d, r = s + d + 1 := ⟨r - s - 1, by omega⟩
      have := fval_mono B hB d s; omega
  · intro h
    obtain ⟨d, rfl⟩ : ∃ d, s = r + d + 1 := ⟨s - r - 1, by omega⟩
    exact fval_mono B hB d r

theorem fval_eq (B r s : Nat) (hB : 1 < B) : fval B r = fval B s ↔ r = s := by
  constructor
  · intro h
    have h1 := fval_lt B r s hB
    have h2 := fval_lt B s r hB
    omega
  · rintro rfl; rfl

theorem fval_zero (B : Nat) (hB : 1 < B) : fval B 0 = 0 := by unfold fval; rw [if_pos (by omega)]

theorem compare_congr {a b c d : Int} (h1 : a < b ↔ c < d) (h2 : a = b ↔ c = d) : compare a b = compare c d := by
  simp only [compare, compareOfLessAndEq, h1, h2]

theorem scaled {a b : Int} {P : Nat} (hP : 0 < P) : compare (a * (P : Int)) (b * (P : Int)) = compare a b := by
  refine compare_congr ?_ ?_
  · exact Int.mul_lt_mul_right (by omega)
  · exact Int.mul_eq_mul_right_iff (by omega)

/-- The sign and the rung of a word as one number: the two zeros are one. -/
def skey (f : Format) (w : Nat) : Int := if (w / f.signWeight % 2 == 1) = true then -((w % f.signWeight : Nat) : Int) else ((w % f.signWeight : Nat) : Int)

theorem read_number (f : Format) (w : Nat) (h : w % f.signWeight < f.infRung) :
    ∃ (m i : Nat), f.read w = .number (w / f.signWeight % 2 == 1) m (f.leastPlace + (i : Int)) ∧ m * 2 ^ i = fval f.binade (w % f.signWeight) := by
  unfold Format.read
  dsimp only
  by_cases h1 : w % f.signWeight < f.binade
  · rw [if_pos h1]
    refine ⟨w % f.signWeight, 0, by simp, ?_⟩
    unfold fval; rw [if_pos h1]; simp
  · rw [if_neg h1, if_pos h]
    exact ⟨f.binade + w % f.signWeight % f.binade, w % f.signWeight / f.binade - 1, rfl, by unfold fval; rw [if_neg h1]⟩

theorem signed_mul (s : Bool) (m u P : Nat) : signed s m u * (P : Int) = if s = true then -((m * 2 ^ u * P : Nat) : Int) else ((m * 2 ^ u * P : Nat) : Int) := by
  unfold signed
  rw [Nat.shiftLeft_eq]
  cases s
  · simp
  · simp [Int.neg_mul]

theorem order_numbers (f : Format) (hB : 1 < f.binade) (x y : Nat) (hx : x % f.signWeight < f.infRung) (hy : y % f.signWeight < f.infRung) :
    f.order x y = some (compare (skey f x) (skey f y)) := by
  obtain ⟨m, i, ex, vx⟩ := read_number f x hx
  obtain ⟨n, j, ey, vy⟩ := read_number f y hy
  unfold Format.order
  rw [ex, ey]
  simp only [Datum.order]
  have hb : min (f.leastPlace + (i : Int)) (f.leastPlace + (j : Int)) = f.leastPlace + ((min i j : Nat) : Int) := by omega
  rw [hb]
  have e1 : (f.leastPlace + (i : Int) - (f.leastPlace + ((min i j : Nat) : Int))).toNat = i - min i j := by omega
  have e2 : (f.leastPlace + (j : Int) - (f.leastPlace + ((min i j : Nat) : Int))).toNat = j - min i j := by omega
  rw [e1, e2]
  congr 1
  rw [← scaled (P := 2 ^ min i j) (Nat.two_pow_pos _), signed_mul, signed_mul]
  have p1 : m * 2 ^ (i - min i j) * 2 ^ min i j = fval f.binade (x % f.signWeight) := by
    rw [Nat.mul_assoc, ← Nat.pow_add, Nat.sub_add_cancel (Nat.min_le_left _ _), vx]
  have p2 : n * 2 ^ (j - min i j) * 2 ^ min i j = fval f.binade (y % f.signWeight) := by
    rw [Nat.mul_assoc, ← Nat.pow_add, Nat.sub_add_cancel (Nat.min_le_right _ _), vy]
  rw [p1, p2]
  unfold skey
  generalize x % f.signWeight = r at *
  generalize y % f.signWeight = s at *
  have l1 := fval_lt f.binade r s hB
  have l2 := fval_lt f.binade s r hB
  have l0 := fval_zero f.binade hB
  have l3 := fval_lt f.binade 0 s hB
  have l4 := fval_lt f.binade 0 r hB
  rw [l0] at l3 l4
  generalize fval f.binade r = R at *
  generalize fval f.binade s = S at *
  cases (x / f.signWeight % 2 == 1) <;> cases (y / f.signWeight % 2 == 1)
  all_goals
    simp only [if_true, if_false, Bool.false_eq_true]
    refine compare_congr ?_ ?_ <;> omega

theorem read_inf (f : Format) (w : Nat) (h : w % f.signWeight = f.infRung) (hB : f.binade ≤ f.infRung) : f.read w = .infinity (w / f.signWeight % 2 == 1) := by
  unfold Format.read
  dsimp only
  rw [if_neg (by omega), if_neg (by omega), if_pos h]

theorem read_nan (f : Format) (w : Nat) (h : f.infRung < w % f.signWeight) (hB : f.binade ≤ f.infRung) : ∃ t, f.read w = .nan (w / f.signWeight % 2 == 1) t := by
  unfold Format.read
  dsimp only
  rw [if_neg (by omega), if_neg (by omega), if_neg (by omega)]
  exact ⟨_, rfl⟩

theorem order_nan_left (f : Format) (x y : Nat) (hB : f.binade ≤ f.infRung) (h : f.infRung < x % f.signWeight) : f.order x y = none := by
  obtain ⟨t, e⟩ := read_nan f x h hB
  unfold Format.order; rw [e]; simp [Datum.order]

theorem order_nan_right (f : Format) (x y : Nat) (hB : f.binade ≤ f.infRung) (h : f.infRung < y % f.signWeight) : f.order x y = none := by
  obtain ⟨t, e⟩ := read_nan f y h hB
  unfold Format.order; rw [e]
  cases f.read x <;> simp [Datum.order]

/-- Two words that are no NaN stand to each other as their signs and rungs do. -/
theorem order_words (f : Format) (hB1 : 1 < f.binade) (hB : f.binade ≤ f.infRung) (x y : Nat) (hx : x % f.signWeight ≤ f.infRung) (hy : y % f.signWeight ≤ f.infRung) :
    f.order x y = some (compare (skey f x) (skey f y)) := by
  by_cases h1 : x % f.signWeight = f.infRung
  · by_cases h2 : y % f.signWeight = f.infRung
    · unfold Format.order
      rw [read_inf f x h1 hB, read_inf f y h2 hB]
      unfold skey
      rw [h1, h2]
      have hI : 0 < f.infRung := by omega
      clear h1 h2 hx hy hB
      generalize f.infRung = I at hI
      cases (x / f.signWeight % 2 == 1) <;> cases (y / f.signWeight % 2 == 1)
      all_goals
        simp only [Datum.order, compare, compareOfLessAndEq, if_true, if_false, Bool.false_eq_true, Bool.toNat_true, Bool.toNat_false]
        refine congrArg some ?_
        repeat' split
        all_goals first | rfl | omega
    · obtain ⟨n, j, ey, vy⟩ := read_number f y (by omega)
      unfold Format.order
      rw [read_inf f x h1 hB, ey]
      unfold skey
      rw [h1]
      cases (x / f.signWeight % 2 == 1) <;> cases (y / f.signWeight % 2 == 1)
      all_goals
        simp only [Datum.order, compare, compareOfLessAndEq, if_true, if_false, Bool.false_eq_true]
        refine congrArg some ?_
        split
        · first | rfl | omega
        · split
          · first | rfl | omega
          · first | rfl | omega
  · obtain ⟨m, i, ex, vx⟩ := read_number f x (by omega)
    by_cases h2 : y % f.signWeight = f.infRung
    · unfold Format.order
      rw [read_inf f y h2 hB, ex]
      unfold skey
      rw [h2]
      cases (x / f.signWeight % 2 == 1) <;> cases (y / f.signWeight % 2 == 1)
      all_goals
        simp only [Datum.order, compare, compareOfLessAndEq, if_true, if_false, Bool.false_eq_true]
        refine congrArg some ?_
        split
        · first | rfl | omega
        · split
          · first | rfl | omega
          · first | rfl | omega
    · exact order_numbers f hB1 x y (by omega) (by omega)

theorem tog_small (fb k L m : Nat) (hm2 : m < 2 ^ L) (h : k + L ≤ fb) : m * 2 ^ k < 2 ^ fb ∧ fval (2 ^ fb) (m * 2 ^ k) = m * 2 ^ k := by
  have h1 : m * 2 ^ k < 2 ^ L * 2 ^ k := Nat.mul_lt_mul_of_pos_right hm2 (Nat.two_pow_pos _)
  rw [← Nat.pow_add] at h1
  have h2 : 2 ^ (L + k) ≤ 2 ^ fb := Nat.pow_le_pow_right (by omega) (by omega)
  have h3 : m * 2 ^ k < 2 ^ fb := by omega
  exact ⟨h3, by unfold fval; rw [if_pos h3]⟩

theorem tog_big (fb k L m : Nat) (hm1 : 2 ^ (L - 1) ≤ m) (hm2 : m < 2 ^ L) (hL : 1 ≤ L) (hLf : L ≤ fb + 1) (h : fb + 1 ≤ k + L) :
    2 ^ fb ≤ m * 2 ^ (fb + 1 - L) ∧ m * 2 ^ (fb + 1 - L) < 2 ^ (fb + 1) ∧ fval (2 ^ fb) ((k + L - fb) * 2 ^ fb + (m * 2 ^ (fb + 1 - L) - 2 ^ fb)) = m * 2 ^ k := by
  have a1 : 2 ^ (L - 1) * 2 ^ (fb + 1 - L) ≤ m * 2 ^ (fb + 1 - L) := Nat.mul_le_mul_right _ hm1
  rw [← Nat.pow_add, show L - 1 + (fb + 1 - L) = fb from by omega] at a1
  have a2 : m * 2 ^ (fb + 1 - L) < 2 ^ L * 2 ^ (fb + 1 - L) := Nat.mul_lt_mul_of_pos_right hm2 (Nat.two_pow_pos _)
  rw [← Nat.pow_add, show L + (fb + 1 - L) = fb + 1 from by omega] at a2
  refine ⟨a1, a2, ?_⟩
  obtain ⟨f, hf⟩ : ∃ f, m * 2 ^ (fb + 1 - L) = 2 ^ fb + f := ⟨m * 2 ^ (fb + 1 - L) - 2 ^ fb, by omega⟩
  have hp : 2 ^ (fb + 1) = 2 * 2 ^ fb := by rw [Nat.pow_succ, Nat.mul_comm]
  have hf2 : f < 2 ^ fb := by omega
  rw [hf, show 2 ^ fb + f - 2 ^ fb = f from by omega]
  obtain ⟨E, hE⟩ : ∃ E, k + L - fb = E + 1 := ⟨k + L - fb - 1, by omega⟩
  rw [hE]
  have hpos : 0 < 2 ^ fb := Nat.two_pow_pos _
  unfold fval
  rw [if_neg (by rw [Nat.add_mul]; omega), Nat.mul_comm (E + 1) (2 ^ fb), Nat.mul_add_mod, Nat.mod_eq_of_lt hf2, Nat.mul_add_div hpos, Nat.div_eq_of_lt hf2,
    Nat.add_zero, Nat.add_sub_cancel, ← hf, Nat.mul_assoc, ← Nat.pow_add, show fb + 1 - L + E = k from by omega]

/-- What apart tells of a rung. -/
theorem apart_val (fb r : Nat) (hr : 2 ^ fb ≤ r) : (2 ^ fb + r % 2 ^ fb) * 2 ^ (r / 2 ^ fb - 1) = fval (2 ^ fb) r := by
  unfold fval; rw [if_neg (by omega)]

theorem apart_val0 (fb r : Nat) (hr : r < 2 ^ fb) : r = fval (2 ^ fb) r := by
  unfold fval; rw [if_pos hr]
end Go.Proofs.YtajllkkbgpijiaaGreatDoor.Ty.Pl
