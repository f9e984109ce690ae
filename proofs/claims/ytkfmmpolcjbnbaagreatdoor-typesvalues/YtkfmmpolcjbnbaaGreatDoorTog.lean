/-
  The walks of odd and together: the bits of m times 2^e.
  Plain facts on floats, of no program: the words of a format stand to each other as their signs and rungs do; what a rung is worth.
  The walk of widened: a float of 4 bytes as one of 8.
-/
import Derived.Test.YtkfmmpolcjbnbaaGreatDoorLay
import Derived.Test.YtkfmmpolcjbnbaaGreatDoorShelf
import Ieee.Arith
namespace Go.Proofs.YtkfmmpolcjbnbaaGreatDoor
open Pl Go.RowKit

/-- The table that TrailingZeros64 reads. -/
abbrev Tab64 (w : World) : Prop := TabAt 3 Lib.deBruijn64tab w
theorem Tab64.below {B : Nat} {w w' : World} (h : Tab64 w) (hb : Below B w w') (hB : 3 < B) : Tab64 w' := fun j hj => by rw [hb.cell (by exact hB)]; exact h j hj
theorem Tab64.old {w : World} (h : Tab64 w) : 3 < w.heap.size := block_lt_of_cell (h 0 (by decide))

theorem Below.al {a w : World} (h : Below a.heap.size a w) (o : Obj) : Below a.heap.size a (w.alloc o) := h.alloc h.size o

theorem bitLen_spec : ∀ (f x : Nat), x < 2 ^ f → f ≤ 64 → x < 2 ^ Lib.bitLen x ∧ (x ≠ 0 → 1 ≤ Lib.bitLen x ∧ 2 ^ (Lib.bitLen x - 1) ≤ x)
  | 0, x, h, _ => by
    obtain rfl : x = 0 := by simp at h; exact h
    exact ⟨by decide, fun h => absurd rfl h⟩
  | f + 1, x, h, hf => by
    by_cases h0 : x = 0
    · subst h0; exact ⟨by decide, fun h => absurd rfl h⟩
    · have hx : x < 2 ^ 64 := Nat.lt_of_lt_of_le h (Nat.pow_le_pow_right (by omega) hf)
      have e := Lib.bitLen_half x h0 hx
      have hp : 2 ^ (f + 1) = 2 * 2 ^ f := by rw [Nat.pow_succ, Nat.mul_comm]
      have ih := bitLen_spec f (x / 2) (by omega) (by omega)
      rw [e, Nat.add_comm 1, Nat.pow_succ, Nat.add_sub_cancel]
      refine ⟨by omega, fun _ => ⟨by omega, ?_⟩⟩
      by_cases h1 : x / 2 = 0
      · rw [h1, show Lib.bitLen 0 = 0 from by decide]; simp; omega
      · obtain ⟨g, hg⟩ := ih.2 h1
        obtain ⟨b, hb⟩ : ∃ b, Lib.bitLen (x / 2) = b + 1 := ⟨Lib.bitLen (x / 2) - 1, by omega⟩
        rw [hb] at hg ⊢
        rw [Nat.pow_succ]
        simp at hg
        omega

theorem ret_ub {k : IntKind} {v v' : Value} {a b : Int} {c d : Bool} (hv : v = .int k a) (hv' : v' = .bool c) (h : a = b) (h' : c = d) : Ending.returned (.tuple #[v, v']) = .returned (.tuple #[.int k b, .bool d]) := by rw [hv, hv', h, h']

theorem odd_any (m : Nat) (e : Int) (w : World) (hm : m ≠ 0) (hm1 : m < 18446744073709551616) (he0 : -20000 ≤ e) (he1 : e ≤ 20000) (hT : Tab64 w) :
    Calls Tryz.prog 95 #[.int .u64 m, .int .i64 e] w fun r w' => r = .returned (.tuple #[.int .u64 ((m / 2 ^ Lib.ctz 64 m : Nat) : Int), .int .i64 (e + (Lib.ctz 64 m : Int))]) ∧ w' = w := by
  obtain ⟨_, hk⟩ := Lib.lowest_bit 64 m hm hm1
  obtain ⟨z, hz⟩ : ∃ z, Lib.ctz 64 m = z := ⟨_, rfl⟩
  have H : Hid (Lib.ctz 64 m = z) := hz
  rw [hz] at hk ⊢
  clear hz
  have hz0 : (0 : Int) ≤ (z : Int) := by omega
  have hz1 : (z : Int) < 64 := by omega
  go_enter Tryz.func95, Tryz.ntmps95
  go_wp2_with (go_at_call 108; refine (Tryz.bits_TrailingZeros64 m hm1 _ (fun _ => hT)).mono ?_; rw [H.out]; rintro r w' ⟨rfl, rfl⟩)
  go_ret2
  exact ⟨ret_ii (by simp) rfl, rfl⟩

theorem together0_64 (e : Int) (w : World) : Calls Tryz.prog 82 #[.agg #[.int .i64 52, .int .i64 1023], .int .u64 0, .int .i64 e] w fun r w' => r = .returned (.tuple #[.int .u64 0, .bool true]) ∧ Below w.heap.size w w' := by
  go_enter Tryz.func82, Tryz.ntmps82
  go_wp2
  go_ret2
  exact ⟨rfl, (Below.refl _ _).alloc (Nat.le_refl _) _⟩

theorem low_bits64 (M k : Nat) (h : M * 2 ^ k < 4503599627370496) : IntKind.u64.wrap ((M : Int) * 2 ^ k) = ((M * 2 ^ k : Nat) : Int) := by
  have e : (M : Int) * 2 ^ k = ((M * 2 ^ k : Nat) : Int) := by push_cast; rfl
  rw [e]
  exact u64_wrap_id _ (by omega) (by omega)
theorem high_bits64 (M L k : Nat) (h1 : 4503599627370496 ≤ M * 2 ^ (53 - L)) (h2 : M * 2 ^ (53 - L) < 9007199254740992) (hhigh : 53 ≤ k + L) (htop : k + L ≤ 2098) :
    bits .or .u64 (((k : Int) - 1074 + (L : Int) - 1 + 1023) * 4503599627370496) (IntKind.u64.wrap (IntKind.u64.wrap ((M : Int) * 2 ^ (53 - L)) - 4503599627370496)) = (((k + L - 52) * 4503599627370496 + (M * 2 ^ (53 - L) - 4503599627370496) : Nat) : Int) := by
  have e : (M : Int) * 2 ^ (53 - L) = ((M * 2 ^ (53 - L) : Nat) : Int) := by push_cast; rfl
  rw [e]
  generalize M * 2 ^ (53 - L) = X at *
  rw [u64_wrap_id (X : Int) (by omega) (by omega), u64_wrap_id ((X : Int) - 4503599627370496) (by omega) (by omega)]
  have hp : (2 : Int) ^ 64 = 18446744073709551616 := rfl
  rw [bits_join .u64 64 (by decide) wraps_u64 52 _ _ (by omega) (by show _ % 4503599627370496 = 0; omega) (by rw [hp]; omega) (by omega) (by show _ < 4503599627370496; omega) (by rw [hp]; omega)]
  omega

/-- What the walk of together is told. -/
structure Tog64 (m : Nat) (e : Int) (M z L : Nat) : Prop where
  m0 : m ≠ 0
  m1 : m < 18446744073709551616
  e0 : -10000 ≤ e
  e1 : e ≤ 10000
  hz : Lib.ctz 64 m = z
  hM : m / 2 ^ z = M
  hL : Lib.bitLen M = L

set_option maxHeartbeats 2000000 in
set_option maxRecDepth 100000 in
theorem togetherLow64 (m : Nat) (e : Int) (M z L k : Nat) (w : World) (hg : Tog64 m e M z L) (hT : Tab64 w) (hk : e + (z : Int) = (k : Int) - 1074) (_hz : z < 64) (hL : L ≤ 53) (hlow : k + L ≤ 52) (hM0 : M < 18446744073709551616) (hMk : M * 2 ^ k < 4503599627370496) :
    Calls Tryz.prog 82 #[.agg #[.int .i64 52, .int .i64 1023], .int .u64 m, .int .i64 e] w fun r w' => r = .returned (.tuple #[.int .u64 ((M * 2 ^ k : Nat) : Int), .bool true]) ∧ Below w.heap.size w w' := by
  obtain ⟨m0, m1, e0, e1, z', M', L'⟩ := hg
  have b0 : ((m : Int) == 0) = false := by simp; omega
  have HZ : Hid (Lib.ctz 64 m = z) := z'
  have HM : Hid (m / 2 ^ z = M) := M'
  have HL : Hid (Lib.bitLen M = L) := L'
  have HK : Hid (e + (z : Int) = (k : Int) - 1074) := hk
  clear z' M' L' hk
  have old := hT.old
  have HW : Hid (M * 2 ^ k < 4503599627370496) := hMk
  clear hMk
  go_enter Tryz.func82, Tryz.ntmps82
  go_wp2_with fail
  refine (odd_any m e _ m0 m1 (by omega) (by omega) (hT.below ((Below.refl w.heap.size _).alloc (Nat.le_refl _) _) old)).mono ?_
  rw [HZ.out, HM.out, HK.out]
  rintro r w' ⟨rfl, rfl⟩
  go_wp2_with fail
  refine (Tryz.bits_Len64 (M : Int) _ (by omega) (by omega)).mono ?_
  rw [Int.toNat_natCast, HL.out]
  rintro r w' ⟨rfl, rfl⟩
  go_wp2_with fail
  refine (least64 _).mono ?_
  rintro r w' ⟨rfl, rfl⟩
  go_wp2_with fail
  refine (least64 _).mono ?_
  rintro r w' ⟨rfl, rfl⟩
  go_wp2_with fail
  go_ret2
  refine ⟨ret_ub rfl rfl (low_bits64 M k HW.out) rfl, ?_⟩
  repeat (first | exact Below.refl _ _ | refine Below.al ?_ _ | refine Below.drew ?_ | refine below_drewN ?_ _)

set_option maxHeartbeats 4000000 in
set_option maxRecDepth 100000 in
theorem togetherHigh64 (m : Nat) (e : Int) (M z L k : Nat) (w : World) (hg : Tog64 m e M z L) (hT : Tab64 w) (hk : e + (z : Int) = (k : Int) - 1074) (_hz : z < 64) (hL : L ≤ 53) (hhigh : 53 ≤ k + L) (htop : k + L ≤ 2098) (hM0 : M < 18446744073709551616) (hX : 4503599627370496 ≤ M * 2 ^ (53 - L) ∧ M * 2 ^ (53 - L) < 9007199254740992) :
    Calls Tryz.prog 82 #[.agg #[.int .i64 52, .int .i64 1023], .int .u64 m, .int .i64 e] w fun r w' => r = .returned (.tuple #[.int .u64 (((k + L - 52) * 4503599627370496 + (M * 2 ^ (53 - L) - 4503599627370496) : Nat) : Int), .bool true]) ∧ Below w.heap.size w w' := by
  obtain ⟨m0, m1, e0, e1, z', M', L'⟩ := hg
  have b0 : ((m : Int) == 0) = false := by simp; omega
  have HZ : Hid (Lib.ctz 64 m = z) := z'
  have HM : Hid (m / 2 ^ z = M) := M'
  have HL : Hid (Lib.bitLen M = L) := L'
  have HK : Hid (e + (z : Int) = (k : Int) - 1074) := hk
  have HX : Hid (4503599627370496 ≤ M * 2 ^ (53 - L) ∧ M * 2 ^ (53 - L) < 9007199254740992) := hX
  clear z' M' L' hk hX
  have old := hT.old
  go_enter Tryz.func82, Tryz.ntmps82
  go_wp2_with fail
  refine (odd_any m e _ m0 m1 (by omega) (by omega) (hT.below ((Below.refl w.heap.size _).alloc (Nat.le_refl _) _) old)).mono ?_
  rw [HZ.out, HM.out, HK.out]
  rintro r w' ⟨rfl, rfl⟩
  go_wp2_with fail
  refine (Tryz.bits_Len64 (M : Int) _ (by omega) (by omega)).mono ?_
  rw [Int.toNat_natCast, HL.out]
  rintro r w' ⟨rfl, rfl⟩
  go_wp2_with fail
  refine (least64 _).mono ?_
  rintro r w' ⟨rfl, rfl⟩
  go_wp2_with fail
  go_quiet (fail)
  go_wp2_with fail
  go_ret2
  refine ⟨ret_ub rfl rfl (high_bits64 M L k HX.out.1 HX.out.2 hhigh htop) rfl, ?_⟩
  repeat (first | exact Below.refl _ _ | refine Below.al ?_ _ | refine Below.drew ?_ | refine below_drewN ?_ _)

set_option maxHeartbeats 4000000 in
set_option maxRecDepth 100000 in
theorem togetherBad64 (m : Nat) (e : Int) (M z L : Nat) (E : Int) (w : World) (hg : Tog64 m e M z L) (hT : Tab64 w) (hk : e + (z : Int) = E) (_hz : z < 64) (hL64 : L ≤ 64) (hM0 : M < 18446744073709551616) (hbad : E < -1074 ∨ 1023 < E + L - 1 ∨ 53 < L) :
    Calls Tryz.prog 82 #[.agg #[.int .i64 52, .int .i64 1023], .int .u64 m, .int .i64 e] w fun r w' => r = .returned (.tuple #[.int .u64 0, .bool false]) ∧ Below w.heap.size w w' := by
  obtain ⟨m0, m1, e0, e1, z', M', L'⟩ := hg
  have b0 : ((m : Int) == 0) = false := by simp; omega
  have HZ : Hid (Lib.ctz 64 m = z) := z'
  have HM : Hid (m / 2 ^ z = M) := M'
  have HL : Hid (Lib.bitLen M = L) := L'
  have HK : Hid (e + (z : Int) = E) := hk
  have hE0 : -20000 ≤ E := by omega
  have hE1 : E ≤ 20000 := by omega
  clear z' M' L' hk
  have old := hT.old
  by_cases c1 : E < -1074
  all_goals by_cases c2 : 1023 < E + (L : Int) - 1
  all_goals by_cases c3 : 53 < (L : Int)
  all_goals first | (exfalso; omega) | skip
  all_goals clear hbad
  all_goals
    go_enter Tryz.func82, Tryz.ntmps82
    go_wp2_with fail
    refine (odd_any m e _ m0 m1 (by omega) (by omega) (hT.below ((Below.refl w.heap.size _).alloc (Nat.le_refl _) _) old)).mono ?_
    rw [HZ.out, HM.out, HK.out]
    rintro r w' ⟨rfl, rfl⟩
    go_wp2_with fail
    refine (Tryz.bits_Len64 (M : Int) _ (by omega) (by omega)).mono ?_
    rw [Int.toNat_natCast, HL.out]
    rintro r w' ⟨rfl, rfl⟩
    go_wp2_with fail
    refine (least64 _).mono ?_
    rintro r w' ⟨rfl, rfl⟩
    go_wp2_with fail
    go_ret2
    refine ⟨rfl, ?_⟩
    repeat (first | exact Below.refl _ _ | refine Below.al ?_ _ | refine Below.drew ?_ | refine below_drewN ?_ _)
end Go.Proofs.YtkfmmpolcjbnbaaGreatDoor
namespace Go.Proofs.YtkfmmpolcjbnbaaGreatDoor.Pl
open Ieee

def fval (B r : Nat) : Nat := if r < B then r else (B + r % B) * 2 ^ (r / B - 1)

theorem fval_succ (B r : Nat) (hB : 1 < B) : fval B r < fval B (r + 1) := by
  unfold fval
  by_cases h1 : r + 1 < B
  · rw [if_pos (by omega), if_pos h1]; omega
  · rw [if_neg h1]
    by_cases h2 : r < B
    · have e : r + 1 = B := by omega
      rw [if_pos h2, e, Nat.mod_self, Nat.div_self (by omega)]; simp; omega
    · rw [if_neg h2]
      have hq : 1 ≤ r / B := (Nat.le_div_iff_mul_le (by omega)).2 (by omega)
      obtain ⟨q, hq'⟩ : ∃ q, r / B = q + 1 := ⟨r / B - 1, by omega⟩
      have hm : r % B < B := Nat.mod_lt _ (by omega)
      have hd := Nat.div_add_mod r B
      by_cases h3 : r % B + 1 < B
      · have e1 : (r + 1) % B = r % B + 1 := by
          have : r + 1 = B * (r / B) + (r % B + 1) := by omega
          rw [this, Nat.mul_add_mod, Nat.mod_eq_of_lt h3]
        have e2 : (r + 1) / B = r / B := by
          have : r + 1 = B * (r / B) + (r % B + 1) := by omega
          rw [this, Nat.mul_add_div (by omega), Nat.div_eq_of_lt h3]; rfl
        rw [e1, e2]
        exact Nat.mul_lt_mul_of_pos_right (by omega) (Nat.two_pow_pos _)
      · have e0 : r % B + 1 = B := by omega
        have e3 : r + 1 = B * (r / B + 1) := by rw [Nat.mul_add]; omega
        have e1 : (r + 1) % B = 0 := by rw [e3]; exact Nat.mul_mod_right _ _
        have e2 : (r + 1) / B = r / B + 1 := by rw [e3]; exact Nat.mul_div_cancel_left _ (by omega)
        rw [e1, e2, hq']
        have : 2 ^ (q + 1 + 1 - 1) = 2 ^ q * 2 := by rw [show q + 1 + 1 - 1 = q + 1 from by omega, Nat.pow_succ]
        rw [this, show q + 1 - 1 = q from by omega]
        have hp : 0 < 2 ^ q := Nat.two_pow_pos _
        have : (B + r % B) * 2 ^ q < (2 * B) * 2 ^ q := Nat.mul_lt_mul_of_pos_right (by omega) hp
        have e4 : (B + 0) * (2 ^ q * 2) = (2 * B) * 2 ^ q := by rw [Nat.add_zero, Nat.mul_comm (2 ^ q) 2, ← Nat.mul_assoc, Nat.mul_comm B 2]
        omega

theorem fval_mono (B : Nat) (hB : 1 < B) : ∀ (d r : Nat), fval B r < fval B (r + d + 1)
  | 0, r => fval_succ B r hB
  | d + 1, r => Nat.lt_trans (fval_mono B hB d r) (fval_succ B (r + d + 1) hB)

theorem fval_lt (B r s : Nat) (hB : 1 < B) : fval B r < fval B s ↔ r < s := by
  constructor
  · intro h
    rcases Nat.lt_trichotomy r s with h1 | h1 | h1
    · exact h1
    · subst h1; omega
    · obtain ⟨d, rfl⟩ : ∃ d, r = s + d + 1 := ⟨r - s - 1, by omega⟩
      have := fval_mono B hB d s; omega
  · intro h
    obtain ⟨d, rfl⟩ : ∃ d, s = r + d + 1 := ⟨s - r - 1, by omega⟩
    exact fval_mono B hB d r

theorem fval_eq (B r s : Nat) (hB : 1 < B) : fval B r = fval B s ↔ r = s := by
  constructor
  · intro h
    have h1 := fval_lt B r s hB
    have h2 := fval_lt B s r hB
    omega
  · rintro rfl; rfl

theorem fval_zero (B : Nat) (hB : 1 < B) : fval B 0 = 0 := by unfold fval; rw [if_pos (by omega)]

theorem compare_congr {a b c d : Int} (h1 : a < b ↔ c < d) (h2 : a = b ↔ c = d) : compare a b = compare c d := by
  simp only [compare, compareOfLessAndEq, h1, h2]

theorem scaled {a b : Int} {P : Nat} (hP : 0 < P) : compare (a * (P : Int)) (b * (P : Int)) = compare a b := by
  refine compare_congr ?_ ?_
  · exact Int.mul_lt_mul_right (by omega)
  · exact Int.mul_eq_mul_right_iff (by omega)

/-- The sign and the rung of a word as one number: the two zeros are one. -/
def skey (f : Format) (w : Nat) : Int := if (w / f.signWeight % 2 == 1) = true then -((w % f.signWeight : Nat) : Int) else ((w % f.signWeight : Nat) : Int)

theorem read_number (f : Format) (w : Nat) (h : w % f.signWeight < f.infRung) :
    ∃ (m i : Nat), f.read w = .number (w / f.signWeight % 2 == 1) m (f.leastPlace + (i : Int)) ∧ m * 2 ^ i = fval f.binade (w % f.signWeight) := by
  unfold Format.read
  dsimp only
  by_cases h1 : w % f.signWeight < f.binade
  · rw [if_pos h1]
    refine ⟨w % f.signWeight, 0, by simp, ?_⟩
    unfold fval; rw [if_pos h1]; simp
  · rw [if_neg h1, if_pos h]
    exact ⟨f.binade + w % f.signWeight % f.binade, w % f.signWeight / f.binade - 1, rfl, by unfold fval; rw [if_neg h1]⟩

theorem signed_mul (s : Bool) (m u P : Nat) : signed s m u * (P : Int) = if s = true then -((m * 2 ^ u * P : Nat) : Int) else ((m * 2 ^ u * P : Nat) : Int) := by
  unfold signed
  rw [Nat.shiftLeft_eq]
  cases s
  · simp
  · simp [Int.neg_mul]

theorem order_numbers (f : Format) (hB : 1 < f.binade) (x y : Nat) (hx : x % f.signWeight < f.infRung) (hy : y % f.signWeight < f.infRung) :
    f.order x y = some (compare (skey f x) (skey f y)) := by
  obtain ⟨m, i, ex, vx⟩ := read_number f x hx
  obtain ⟨n, j, ey, vy⟩ := read_number f y hy
  unfold Format.order
  rw [ex, ey]
  simp only [Datum.order]
  have hb : min (f.leastPlace + (i : Int)) (f.leastPlace + (j : Int)) = f.leastPlace + ((min i j : Nat) : Int) := by omega
  rw [hb]
  have e1 : (f.leastPlace + (i : Int) - (f.leastPlace + ((min i j : Nat) : Int))).toNat = i - min i j := by omega
  have e2 : (f.leastPlace + (j : Int) - (f.leastPlace + ((min i j : Nat) : Int))).toNat = j - min i j := by omega
  rw [e1, e2]
  congr 1
  rw [← scaled (P := 2 ^ min i j) (Nat.two_pow_pos _), signed_mul, signed_mul]
  have p1 : m * 2 ^ (i - min i j) * 2 ^ min i j = fval f.binade (x % f.signWeight) := by
    rw [Nat.mul_assoc, ← Nat.pow_add, Nat.sub_add_cancel (Nat.min_le_left _ _), vx]
  have p2 : n * 2 ^ (j - min i j) * 2 ^ min i j = fval f.binade (y % f.signWeight) := by
    rw [Nat.mul_assoc, ← Nat.pow_add, Nat.sub_add_cancel (Nat.min_le_right _ _), vy]
  rw [p1, p2]
  unfold skey
  generalize x % f.signWeight = r at *
  generalize y % f.signWeight = s at *
  have l1 := fval_lt f.binade r s hB
  have l2 := fval_lt f.binade s r hB
  have l0 := fval_zero f.binade hB
  have l3 := fval_lt f.binade 0 s hB
  have l4 := fval_lt f.binade 0 r hB
  rw [l0] at l3 l4
  generalize fval f.binade r = R at *
  generalize fval f.binade s = S at *
  cases (x / f.signWeight % 2 == 1) <;> cases (y / f.signWeight % 2 == 1)
  all_goals
    simp only [if_true, if_false, Bool.false_eq_true]
    refine compare_congr ?_ ?_ <;> omega

theorem read_inf (f : Format) (w : Nat) (h : w % f.signWeight = f.infRung) (hB : f.binade ≤ f.infRung) : f.read w = .infinity (w / f.signWeight % 2 == 1) := by
  unfold Format.read
  dsimp only
  rw [if_neg (by omega), if_neg (by omega), if_pos h]

theorem read_nan (f : Format) (w : Nat) (h : f.infRung < w % f.signWeight) (hB : f.binade ≤ f.infRung) : ∃ t, f.read w = .nan (w / f.signWeight % 2 == 1) t := by
  unfold Format.read
  dsimp only
  rw [if_neg (by omega), if_neg (by omega), if_neg (by omega)]
  exact ⟨_, rfl⟩

theorem order_nan_left (f : Format) (x y : Nat) (hB : f.binade ≤ f.infRung) (h : f.infRung < x % f.signWeight) : f.order x y = none := by
  obtain ⟨t, e⟩ := read_nan f x h hB
  unfold Format.order; rw [e]; simp [Datum.order]

theorem order_nan_right (f : Format) (x y : Nat) (hB : f.binade ≤ f.infRung) (h : f.infRung < y % f.signWeight) : f.order x y = none := by
  obtain ⟨t, e⟩ := read_nan f y h hB
  unfold Format.order; rw [e]
  cases f.read x <;> simp [Datum.order]

/-- Two words that are no NaN stand to each other as their signs and rungs do. -/
theorem order_words (f : Format) (hB1 : 1 < f.binade) (hB : f.binade ≤ f.infRung) (x y : Nat) (hx : x % f.signWeight ≤ f.infRung) (hy : y % f.signWeight ≤ f.infRung) :
    f.order x y = some (compare (skey f x) (skey f y)) := by
  by_cases h1 : x % f.signWeight = f.infRung
  · by_cases h2 : y % f.signWeight = f.infRung
    · unfold Format.order
      rw [read_inf f x h1 hB, read_inf f y h2 hB]
      unfold skey
      rw [h1, h2]
      have hI : 0 < f.infRung := by omega
      clear h1 h2 hx hy hB
      generalize f.infRung = I at hI
      cases (x / f.signWeight % 2 == 1) <;> cases (y / f.signWeight % 2 == 1)
      all_goals
        simp only [Datum.order, compare, compareOfLessAndEq, if_true, if_false, Bool.false_eq_true, Bool.toNat_true, Bool.toNat_false]
        refine congrArg some ?_
        repeat' split
        all_goals first | rfl | omega
    · obtain ⟨n, j, ey, vy⟩ := read_number f y (by omega)
      unfold Format.order
      rw [read_inf f x h1 hB, ey]
      unfold skey
      rw [h1]
      cases (x / f.signWeight % 2 == 1) <;> cases (y / f.signWeight % 2 == 1)
      all_goals
        simp only [Datum.order, compare, compareOfLessAndEq, if_true, if_false, Bool.false_eq_true]
        refine congrArg some ?_
        split
        · first | rfl | omega
        · split
          · first | rfl | omega
          · first | rfl | omega
  · obtain ⟨m, i, ex, vx⟩ := read_number f x (by omega)
    by_cases h2 : y % f.signWeight = f.infRung
    · unfold Format.order
      rw [read_inf f y h2 hB, ex]
      unfold skey
      rw [h2]
      cases (x / f.signWeight % 2 == 1) <;> cases (y / f.signWeight % 2 == 1)
      all_goals
        simp only [Datum.order, compare, compareOfLessAndEq, if_true, if_false, Bool.false_eq_true]
        refine congrArg some ?_
        split
        · first | rfl | omega
        · split
          · first | rfl | omega
          · first | rfl | omega
    · exact order_numbers f hB1 x y (by omega) (by omega)

theorem tog_small (fb k L m : Nat) (hm2 : m < 2 ^ L) (h : k + L ≤ fb) : m * 2 ^ k < 2 ^ fb ∧ fval (2 ^ fb) (m * 2 ^ k) = m * 2 ^ k := by
  have h1 : m * 2 ^ k < 2 ^ L * 2 ^ k := Nat.mul_lt_mul_of_pos_right hm2 (Nat.two_pow_pos _)
  rw [← Nat.pow_add] at h1
  have h2 : 2 ^ (L + k) ≤ 2 ^ fb := Nat.pow_le_pow_right (by omega) (by omega)
  have h3 : m * 2 ^ k < 2 ^ fb := by omega
  exact ⟨h3, by unfold fval; rw [if_pos h3]⟩

theorem tog_big (fb k L m : Nat) (hm1 : 2 ^ (L - 1) ≤ m) (hm2 : m < 2 ^ L) (hL : 1 ≤ L) (hLf : L ≤ fb + 1) (h : fb + 1 ≤ k + L) :
    2 ^ fb ≤ m * 2 ^ (fb + 1 - L) ∧ m * 2 ^ (fb + 1 - L) < 2 ^ (fb + 1) ∧ fval (2 ^ fb) ((k + L - fb) * 2 ^ fb + (m * 2 ^ (fb + 1 - L) - 2 ^ fb)) = m * 2 ^ k := by
  have a1 : 2 ^ (L - 1) * 2 ^ (fb + 1 - L) ≤ m * 2 ^ (fb + 1 - L) := Nat.mul_le_mul_right _ hm1
  rw [← Nat.pow_add, show L - 1 + (fb + 1 - L) = fb from by omega] at a1
  have a2 : m * 2 ^ (fb + 1 - L) < 2 ^ L * 2 ^ (fb + 1 - L) := Nat.mul_lt_mul_of_pos_right hm2 (Nat.two_pow_pos _)
  rw [← Nat.pow_add, show L + (fb + 1 - L) = fb + 1 from by omega] at a2
  refine ⟨a1, a2, ?_⟩
  obtain ⟨f, hf⟩ : ∃ f, m * 2 ^ (fb + 1 - L) = 2 ^ fb + f := ⟨m * 2 ^ (fb + 1 - L) - 2 ^ fb, by omega⟩
  have hp : 2 ^ (fb + 1) = 2 * 2 ^ fb := by rw [Nat.pow_succ, Nat.mul_comm]
  have hf2 : f < 2 ^ fb := by omega
  rw [hf, show 2 ^ fb + f - 2 ^ fb = f from by omega]
  obtain ⟨E, hE⟩ : ∃ E, k + L - fb = E + 1 := ⟨k + L - fb - 1, by omega⟩
  rw [hE]
  have hpos : 0 < 2 ^ fb := Nat.two_pow_pos _
  unfold fval
  rw [if_neg (by rw [Nat.add_mul]; omega), Nat.mul_comm (E + 1) (2 ^ fb), Nat.mul_add_mod, Nat.mod_eq_of_lt hf2, Nat.mul_add_div hpos, Nat.div_eq_of_lt hf2,
    Nat.add_zero, Nat.add_sub_cancel, ← hf, Nat.mul_assoc, ← Nat.pow_add, show fb + 1 - L + E = k from by omega]

/-- What apart tells of a rung. -/
theorem apart_val (fb r : Nat) (hr : 2 ^ fb ≤ r) : (2 ^ fb + r % 2 ^ fb) * 2 ^ (r / 2 ^ fb - 1) = fval (2 ^ fb) r := by
  unfold fval; rw [if_neg (by omega)]

theorem apart_val0 (fb r : Nat) (hr : r < 2 ^ fb) : r = fval (2 ^ fb) r := by
  unfold fval; rw [if_pos hr]
end Go.Proofs.YtkfmmpolcjbnbaaGreatDoor.Pl
namespace Go.Proofs.YtkfmmpolcjbnbaaGreatDoor
open Pl Go.RowKit

theorem Below.andThen {a W w1 : World} (h : Below a.heap.size a W) (h1 : Below W.heap.size W w1) : Below a.heap.size a w1 := h.trans (h1.mono h.size)

theorem ctz_split (m : Nat) (h0 : m ≠ 0) (h : m < 18446744073709551616) : ∃ M z L : Nat, Tog64 m 0 M z L ∧ z < 64 ∧ m = M * 2 ^ z ∧ M % 2 = 1 ∧ 1 ≤ L ∧ L ≤ 64 ∧ 2 ^ (L - 1) ≤ M ∧ M < 2 ^ L ∧ M < 18446744073709551616 := by
  obtain ⟨_, hz⟩ := Lib.lowest_bit 64 m h0 h
  obtain ⟨q, hq, _⟩ := Lib.ctzFrom_spec 64 m (by omega) h
  have hc : Lib.ctz 64 m = Lib.ctzFrom 64 m := by unfold Lib.ctz; rw [if_neg h0]
  rw [← hc] at hq
  have hp : 0 < 2 ^ Lib.ctz 64 m := Nat.two_pow_pos _
  have hM : m / 2 ^ Lib.ctz 64 m = 2 * q + 1 := by
    conv => lhs; arg 1; rw [hq]
    rw [Nat.mul_comm]; exact Nat.mul_div_cancel _ hp
  have hle : 2 * q + 1 ≤ m := by rw [← hM]; exact Nat.div_le_self _ _
  obtain ⟨s1, s2⟩ := bitLen_spec 64 (2 * q + 1) (by show _ < 18446744073709551616; omega) (by omega)
  obtain ⟨s3, s4⟩ := s2 (by omega)
  exact ⟨2 * q + 1, Lib.ctz 64 m, Lib.bitLen (2 * q + 1), ⟨h0, h, by omega, by omega, rfl, hM, rfl⟩, hz, by rw [Nat.mul_comm]; exact hq, by omega, s3, Lib.bitLen_le _ 64 (by omega) (by show _ < 18446744073709551616; omega), s4, s1, by omega⟩

theorem len_bound (M z L f : Nat) (hL : 1 ≤ L) (h1 : 2 ^ (L - 1) ≤ M) (h : M * 2 ^ z < 2 ^ f) : L + z ≤ f := by
  have h2 : 2 ^ (L - 1) * 2 ^ z ≤ M * 2 ^ z := Nat.mul_le_mul_right _ h1
  rw [← Nat.pow_add] at h2
  have h3 : 2 ^ (L - 1 + z) < 2 ^ f := by omega
  have := (Nat.pow_lt_pow_iff_right (by omega)).1 h3
  omega

/-- together of a small m in the wide layout: the rung that is worth just that. -/
theorem together64_small (m k0 : Nat) (e : Int) (w : World) (hT : Tab64 w) (hm : m < 16777216) (he : e = (k0 : Int) - 1074) (hk0 : 925 ≤ k0) (hk1 : k0 ≤ 1200) :
    Calls Tryz.prog 82 #[.agg #[.int .i64 52, .int .i64 1023], .int .u64 m, .int .i64 e] w fun r w' => ∃ R : Nat, r = .returned (.tuple #[.int .u64 R, .bool true]) ∧ R < 9218868437227405312 ∧ fval (2 ^ 52) R = m * 2 ^ k0 ∧ Below w.heap.size w w' := by
  by_cases h0 : m = 0
  · subst h0
    refine (together0_64 e w).mono ?_
    rintro r w' ⟨rfl, hb⟩
    exact ⟨0, rfl, by decide, by rw [fval_zero _ (by decide)]; simp, hb⟩
  · obtain ⟨M, z, L, hg, hz, hmz, _, hL1, hL64, hM1, hM2, hM64⟩ := ctz_split m h0 (by omega)
    have hl := len_bound M z L 24 hL1 hM1 (by rw [← hmz]; exact hm)
    obtain ⟨t1, t2, t3⟩ := tog_big 52 (k0 + z) L M hM1 hM2 hL1 (by omega) (by omega)
    have hg' : Tog64 m e M z L := ⟨hg.m0, hg.m1, by omega, by omega, hg.hz, hg.hM, hg.hL⟩
    have t1' : 4503599627370496 ≤ M * 2 ^ (53 - L) := t1
    have t2' : M * 2 ^ (53 - L) < 9007199254740992 := t2
    refine (togetherHigh64 m e M z L (k0 + z) w hg' hT (by omega) hz (by omega) (by omega) (by omega) hM64 ⟨t1', t2'⟩).mono ?_
    rintro r w' ⟨rfl, hb⟩
    refine ⟨_, rfl, by omega, ?_, hb⟩
    have : (4503599627370496 : Nat) = 2 ^ 52 := rfl
    rw [this, t3, Nat.pow_add, ← Nat.mul_assoc, Nat.mul_right_comm, ← hmz]

/-- The same, of numbers as the walk has them. -/
theorem together64_int (m e : Int) (w : World) (hT : Tab64 w) (h0 : 0 ≤ m) (hm : m < 16777216) (he0 : -149 ≤ e) (he1 : e ≤ 126) :
    Calls Tryz.prog 82 #[.agg #[.int .i64 52, .int .i64 1023], .int .u64 m, .int .i64 e] w fun r w' => ∃ R : Nat, r = .returned (.tuple #[.int .u64 R, .bool true]) ∧ R < 9218868437227405312 ∧ fval (2 ^ 52) R = m.toNat * 2 ^ (e + 1074).toNat ∧ Below w.heap.size w w' := by
  obtain ⟨n, rfl⟩ := Int.eq_ofNat_of_zero_le h0
  exact together64_small n (e + 1074).toNat e w hT (by omega) (by omega) (by omega) (by omega)

theorem wide_val (r : Int) (h0 : 0 ≤ r) (h1 : 8388608 ≤ r) : (8388608 + r % 8388608).toNat * 2 ^ (-149 + r / 8388608 - 1 + 1074).toNat = fval (2 ^ 23) r.toNat * 2 ^ 925 := by
  obtain ⟨n, rfl⟩ := Int.eq_ofNat_of_zero_le h0
  have h := apart_val 23 n (by show 8388608 ≤ _; omega)
  have e1 : (8388608 + (n : Int) % 8388608).toNat = 2 ^ 23 + n % 2 ^ 23 := by show _ = 8388608 + n % 8388608; omega
  have e2 : (-149 + (n : Int) / 8388608 - 1 + 1074).toNat = (n / 2 ^ 23 - 1) + 925 := by show _ = (n / 8388608 - 1) + 925; omega
  rw [Int.toNat_natCast, ← h, e1, e2, Nat.pow_add, Nat.mul_assoc]

theorem or_sign (s R : Int) (h0 : 0 ≤ s) (h1 : s ≤ 1) (r0 : 0 ≤ R) (r1 : R < 9223372036854775808) : bits .or .u64 (s * 9223372036854775808) R = s * 9223372036854775808 + R := by
  have hp : (2 : Int) ^ 64 = 18446744073709551616 := rfl
  exact bits_join .u64 64 (by decide) wraps_u64 63 _ _ (by omega) (by show _ % 9223372036854775808 = 0; omega) (by rw [hp]; omega) r0 r1 (by rw [hp]; omega)

theorem and31 (n : Int) (h0 : 0 ≤ n) (h1 : n < 4294967296) : bits .and .u64 n 2147483647 = n % 2147483648 := by
  obtain ⟨m, rfl⟩ := Int.eq_ofNat_of_zero_le h0
  have h := u64_and_nat m 2147483647 (by omega) (by decide)
  rw [show ((2147483647 : Nat) : Int) = (2147483647 : Int) from rfl] at h
  rw [h, show m &&& 2147483647 = m % 2147483648 from Nat.and_two_pow_sub_one_eq_mod m 31]; omega

set_option maxHeartbeats 4000000 in
set_option maxRecDepth 100000 in
theorem widened_inf (n : Int) (w : World) (h0 : 0 ≤ n) (h1 : n < 4294967296) (hr : n % 2147483648 = 2139095040) :
    Calls Tryz.prog 50 #[.int .u64 n] w fun e w' => e = .returned (.int .u64 (n / 2147483648 * 9223372036854775808 + 9218868437227405312)) ∧ Below w.heap.size w w' := by
  have hand : bits .and .u64 n 2147483647 = 2139095040 := by rw [and31 n h0 h1, hr]
  clear hr
  go_enter Tryz.func50, Tryz.ntmps50
  go_wp2_with fail
  refine (layoutOf32 _).mono ?_
  rintro e w' ⟨rfl, rfl⟩
  go_wp2_with fail
  refine (layoutOf64 _).mono ?_
  rintro e w' ⟨rfl, rfl⟩
  go_wp2_with fail
  refine (infinity32 _).mono ?_
  rintro e w' ⟨rfl, rfl⟩
  go_wp2_with fail
  refine (infinity64 _).mono ?_
  rintro e w' ⟨rfl, rfl⟩
  go_wp2_with fail
  go_ret
  refine ⟨ret_int (or_sign _ _ (by omega) (by omega) (by omega) (by omega)), ?_⟩
  repeat (first | exact Below.refl _ _ | refine Below.al ?_ _ | refine Below.drew ?_ | refine below_drewN ?_ _)

set_option maxHeartbeats 4000000 in
set_option maxRecDepth 100000 in
theorem widened_nan (n : Int) (w : World) (h0 : 0 ≤ n) (h1 : n < 4294967296) (hr : 2139095040 < n % 2147483648) :
    Calls Tryz.prog 50 #[.int .u64 n] w fun e w' => e = .returned (.int .u64 (n / 2147483648 * 9223372036854775808 + 9218868437227405313)) ∧ Below w.heap.size w w' := by
  have hand := and31 n h0 h1
  have hb : (n % 2147483648 == 2139095040) = false := by simp; omega
  go_enter Tryz.func50, Tryz.ntmps50
  go_wp2_with fail
  refine (layoutOf32 _).mono ?_
  rintro e w' ⟨rfl, rfl⟩
  go_wp2_with fail
  refine (layoutOf64 _).mono ?_
  rintro e w' ⟨rfl, rfl⟩
  go_wp2_with fail
  refine (infinity32 _).mono ?_
  rintro e w' ⟨rfl, rfl⟩
  go_wp2_with fail
  refine (infinity32 _).mono ?_
  rintro e w' ⟨rfl, rfl⟩
  go_wp2_with fail
  refine (infinity64 _).mono ?_
  rintro e w' ⟨rfl, rfl⟩
  go_wp2_with fail
  go_ret
  refine ⟨ret_int ?_, ?_⟩
  · rw [or_sign _ 9218868437227405312 (by omega) (by omega) (by omega) (by omega)]
    have hp : (2 : Int) ^ 64 = 18446744073709551616 := rfl
    rw [bits_join .u64 64 (by decide) wraps_u64 1 _ _ (by omega) (by show _ % 2 = 0; omega) (by rw [hp]; omega) (by omega) (by decide) (by decide)]
    omega
  · repeat (first | exact Below.refl _ _ | refine Below.al ?_ _ | refine Below.drew ?_ | refine below_drewN ?_ _)

set_option maxHeartbeats 4000000 in
set_option maxRecDepth 100000 in
theorem widened_num (n r : Int) (w : World) (hT : Tab64 w) (h0 : 0 ≤ n) (h1 : n < 4294967296) (hr : n % 2147483648 = r) (hlt : r < 2139095040) :
    Calls Tryz.prog 50 #[.int .u64 n] w fun e w' => ∃ R : Nat, e = .returned (.int .u64 (n / 2147483648 * 9223372036854775808 + R)) ∧ R < 9218868437227405312 ∧ fval (2 ^ 52) R = fval (2 ^ 23) r.toNat * 2 ^ 925 ∧ Below w.heap.size w w' := by
  have hand : bits .and .u64 n 2147483647 = r := by rw [and31 n h0 h1, hr]
  have hb : (r == 2139095040) = false := by simp; omega
  have hb' : decide (2139095040 < r) = false := by simp; omega
  have hr0 : 0 ≤ r := by omega
  have hs0 : 0 ≤ n / 2147483648 := by omega
  have hs1 : n / 2147483648 ≤ 1 := by omega
  have old := hT.old
  clear hr
  by_cases hlow : r < 8388608
  · have HF : Hid (fval (2 ^ 23) r.toNat = r.toNat) := (apart_val0 23 r.toNat (by show _ < 8388608; omega)).symm
    go_enter Tryz.func50, Tryz.ntmps50
    go_wp2_with fail
    refine (layoutOf32 _).mono ?_
    rintro e w' ⟨rfl, rfl⟩
    go_wp2_with fail
    refine (layoutOf64 _).mono ?_
    rintro e w' ⟨rfl, rfl⟩
    go_wp2_with fail
    refine (infinity32 _).mono ?_
    rintro e w' ⟨rfl, rfl⟩
    go_wp2_with fail
    refine (infinity32 _).mono ?_
    rintro e w' ⟨rfl, rfl⟩
    go_wp2_with fail
    go_region_held3 (fun w' => w'.cell? ⟨w.heap.size + 1 + 1, 0, none⟩ = some (.int .i64 23) ∧ w'.cell? ⟨w.heap.size + 1 + 1, 1, none⟩ = some (.int .i64 127) ∧ w'.cell? ⟨w.heap.size + 1 + 1 + 1, 0, none⟩ = some (.int .i64 52) ∧ w'.cell? ⟨w.heap.size + 1 + 1 + 1, 1, none⟩ = some (.int .i64 1023))
      (first | (simp [go_sem, World.cell?_alloc_past]; done) | (refine ⟨?_, ?_, ?_, ?_⟩ <;> (rw [hb1.cell (by simp)]; simp [go_sem, World.cell?_alloc_past])) | (refine ⟨?_, ?_, ?_, ?_⟩ <;> (rw [hb2.cell (Nat.lt_of_lt_of_le (by simp) hb1.size), hb1.cell (by simp)]; simp [go_sem, World.cell?_alloc_past])))
      (first | ((go_at_call 83; refine (apartLow32 r _ hr0 hlow).mono ?_; rintro e w1 ⟨rfl, hb1⟩)) | ((go_at_call 82; refine (together64_int r (-149) _ (hT.below (Below.andThen (Below.drew (Below.al (Below.al (Below.al (Below.al (Below.al (Below.al (Below.refl _ _) _) _) _) _) _) _)) hb1) old) hr0 (by omega) (by omega) (by omega)).mono ?_; rintro e w2 ⟨R, rfl, hR, hV, hb2⟩)))
    all_goals go_wp2_with fail
    all_goals go_ret
    all_goals refine ⟨R, ret_int (or_sign _ _ hs0 hs1 (by omega) (by omega)), hR, by rw [hV, HF.out, show (-149 + 1074 : Int).toNat = 925 from rfl], ?_⟩
    all_goals exact Below.andThen (Below.andThen (Below.drew (Below.al (Below.al (Below.al (Below.al (Below.al (Below.al (Below.refl _ _) _) _) _) _) _) _)) hb1) hb2
  · have HF : Hid ((8388608 + r % 8388608).toNat * 2 ^ (-149 + r / 8388608 - 1 + 1074).toNat = fval (2 ^ 23) r.toNat * 2 ^ 925) := wide_val r hr0 (by omega)
    go_enter Tryz.func50, Tryz.ntmps50
    go_wp2_with fail
    refine (layoutOf32 _).mono ?_
    rintro e w' ⟨rfl, rfl⟩
    go_wp2_with fail
    refine (layoutOf64 _).mono ?_
    rintro e w' ⟨rfl, rfl⟩
    go_wp2_with fail
    refine (infinity32 _).mono ?_
    rintro e w' ⟨rfl, rfl⟩
    go_wp2_with fail
    refine (infinity32 _).mono ?_
    rintro e w' ⟨rfl, rfl⟩
    go_wp2_with fail
    go_region_held3 (fun w' => w'.cell? ⟨w.heap.size + 1 + 1, 0, none⟩ = some (.int .i64 23) ∧ w'.cell? ⟨w.heap.size + 1 + 1, 1, none⟩ = some (.int .i64 127) ∧ w'.cell? ⟨w.heap.size + 1 + 1 + 1, 0, none⟩ = some (.int .i64 52) ∧ w'.cell? ⟨w.heap.size + 1 + 1 + 1, 1, none⟩ = some (.int .i64 1023))
      (first | (simp [go_sem, World.cell?_alloc_past]; done) | (refine ⟨?_, ?_, ?_, ?_⟩ <;> (rw [hb1.cell (by simp)]; simp [go_sem, World.cell?_alloc_past])) | (refine ⟨?_, ?_, ?_, ?_⟩ <;> (rw [hb2.cell (Nat.lt_of_lt_of_le (by simp) hb1.size), hb1.cell (by simp)]; simp [go_sem, World.cell?_alloc_past])))
      (first | ((go_at_call 83; refine (apartHigh32 r _ (by omega) hlt).mono ?_; rintro e w1 ⟨rfl, hb1⟩)) | ((go_at_call 82; refine (together64_int (8388608 + r % 8388608) (-149 + r / 8388608 - 1) _ (hT.below (Below.andThen (Below.drew (Below.al (Below.al (Below.al (Below.al (Below.al (Below.al (Below.refl _ _) _) _) _) _) _) _)) hb1) old) (by omega) (by omega) (by omega) (by omega)).mono ?_; rintro e w2 ⟨R, rfl, hR, hV, hb2⟩)))
    all_goals go_wp2_with fail
    all_goals go_ret
    all_goals refine ⟨R, ret_int (or_sign _ _ hs0 hs1 (by omega) (by omega)), hR, by rw [hV, HF.out], ?_⟩
    all_goals exact Below.andThen (Below.andThen (Below.drew (Below.al (Below.al (Below.al (Below.al (Below.al (Below.al (Below.refl _ _) _) _) _) _) _) _)) hb1) hb2
#print axioms widened_num
end Go.Proofs.YtkfmmpolcjbnbaaGreatDoor
