/-
  The walk of TypesFloats: true of the bits of any two floats of 64 bits.
-/
import Derived.Test.YthoaandafmmojaaDoorEight
import Derived.Test.YthoaandafmmojaaDoorOrdF
import Derived.Test.YthoaandafmmojaaDoorIsR
namespace Go.Proofs.YthoaandafmmojaaDoor
open Pl Go.RowKit

theorem wf_u64 {n : Int} (h : (Lit.int .u64 n).wf = true) : 0 ≤ n ∧ n < 18446744073709551616 := by
  simp [Lit.wf, IntKind.min, IntKind.max, IntKind.signed, IntKind.bits] at h
  omega

theorem xorTopA (k n : Nat) (h : n < 2 ^ k) : n ^^^ 2 ^ k = 2 ^ k + n := by
  apply Nat.eq_of_testBit_eq
  intro j
  rw [Nat.testBit_xor, Nat.testBit_two_pow]
  rcases Nat.lt_trichotomy j k with hj | hj | hj
  · rw [Nat.testBit_two_pow_add_gt hj, decide_eq_false (by omega)]
    cases n.testBit j <;> rfl
  · subst hj
    rw [Nat.testBit_two_pow_add_eq, decide_eq_true rfl]
    cases n.testBit j <;> rfl
  · have h1 : n.testBit j = false := Nat.testBit_lt_two_pow (Nat.lt_trans h (Nat.pow_lt_pow_right (by omega) hj))
    have h2 : (2 ^ k + n).testBit j = false := by
      refine Nat.testBit_lt_two_pow ?_
      have : 2 ^ (k + 1) ≤ 2 ^ j := Nat.pow_le_pow_right (by omega) hj
      rw [Nat.pow_succ] at this
      omega
    rw [h1, h2, decide_eq_false (by omega)]
    rfl
theorem xorTopB (k n : Nat) (h : n < 2 ^ k) : (2 ^ k + n) ^^^ 2 ^ k = n := by
  rw [← xorTopA k n h, Nat.xor_assoc, Nat.xor_self, Nat.xor_zero]

/-- The bits with the other sign. -/
def flipN (m : Int) : Int := if m < 9223372036854775808 then m + 9223372036854775808 else m - 9223372036854775808
theorem xor63 (m : Int) (h0 : 0 ≤ m) (h1 : m < 18446744073709551616) : bits .xor .u64 m 9223372036854775808 = flipN m := by
  obtain ⟨q, rfl⟩ := Int.eq_ofNat_of_zero_le h0
  have h := u64_xor_nat q 9223372036854775808 (by omega) (by decide)
  rw [show ((9223372036854775808 : Nat) : Int) = (9223372036854775808 : Int) from rfl] at h
  rw [h]
  unfold flipN
  by_cases c : q < 9223372036854775808
  · rw [show q ^^^ 9223372036854775808 = 9223372036854775808 + q from xorTopA 63 q c, if_pos (by omega)]; omega
  · obtain ⟨r, rfl⟩ : ∃ r, q = 9223372036854775808 + r := ⟨q - 9223372036854775808, by omega⟩
    rw [show (9223372036854775808 + r) ^^^ 9223372036854775808 = r from xorTopB 63 r (by show r < 9223372036854775808; omega), if_neg (by omega)]; omega
theorem and63A (n : Int) (h0 : 0 ≤ n) (h1 : n < 18446744073709551616) : bits .and .u64 n 9223372036854775807 = n % 9223372036854775808 := by
  obtain ⟨m, rfl⟩ := Int.eq_ofNat_of_zero_le h0
  have h := u64_and_nat m 9223372036854775807 (by omega) (by decide)
  rw [show ((9223372036854775807 : Nat) : Int) = (9223372036854775807 : Int) from rfl] at h
  rw [h, show m &&& 9223372036854775807 = m % 9223372036854775808 from Nat.and_two_pow_sub_one_eq_mod m 63]; omega
theorem or63 (m : Int) (h0 : 0 ≤ m) (h1 : m < 9223372036854775808) : bits .or .u64 m 9223372036854775808 = m + 9223372036854775808 :=
  bits_join_low .u64 64 (by decide) wraps_u64 63 m 9223372036854775808 h0 h1 (by show m < 18446744073709551616; omega) (by decide) (by decide) (by decide)

theorem not64 (n : Int) (h0 : 0 ≤ n) (h1 : n < 18446744073709551616) : bits .xor .u64 IntKind.u64.max n = 18446744073709551615 - n := by
  rw [show IntKind.u64.max = 18446744073709551615 from by decide]
  obtain ⟨m, rfl⟩ := Int.eq_ofNat_of_zero_le h0
  have hm : m < 2 ^ 64 := by show m < 18446744073709551616; omega
  have h := u64_xor_nat 18446744073709551615 m (by decide) (by omega)
  rw [show ((18446744073709551615 : Nat) : Int) = (18446744073709551615 : Int) from rfl] at h
  have e : 18446744073709551615 ^^^ m = 18446744073709551615 - m := by
    apply Nat.eq_of_testBit_eq
    intro j
    rw [Nat.testBit_xor, show (18446744073709551615 : Nat) - m = 2 ^ 64 - (m + 1) from by show _ = 18446744073709551616 - (m + 1); omega, Nat.testBit_two_pow_sub_succ hm,
      show (18446744073709551615 : Nat) = 2 ^ 64 - 1 from rfl, Nat.testBit_two_pow_sub_one]
    by_cases hj : j < 64
    · simp [hj]
    · have : m.testBit j = false := Nat.testBit_lt_two_pow (Nat.lt_of_lt_of_le hm (Nat.pow_le_pow_right (by decide) (by omega)))
      simp [hj, this]
  rw [h, e]; omega

theorem place17 (zs : List Int) (h : zs.length = 8) : placeB 17 zs = !decide (9218868437227405312 < num zs % 9223372036854775808) := by
  have hn : nanB 17 zs = decide (9218868437227405312 < num zs % 9223372036854775808) := by unfold nanB; simp
  unfold placeB
  rw [cb17 zs h, hn, show kindN 17 = 4 from by decide]
  simp
theorem comp17 (a b : List Int) (ha : a.length = 8) (hb : b.length = 8) (h : compB 17 a b = true) : compR 17 a b = cmpN (fkey 64 (num a)) (fkey 64 (num b)) := by
  rw [compR_of 17 a b h]
  unfold ordK
  rw [show kindN 17 = 4 from by decide, if_neg (by decide), if_pos rfl, if_neg (by decide), if_pos rfl, ha, hb]

/-- What the statement makes of the bits: their place from 0 on. -/
def upN (m : Int) : Int := if m < 9223372036854775808 then m + 9223372036854775808 else 18446744073709551615 - m
theorem up_key (m n : Int) : (fkey 64 m < fkey 64 n ↔ upN m < upN n) := by
  unfold fkey upN
  simp only [Nat.reduceSub, Int.reducePow]
  repeat' split
  all_goals omega

theorem flt_plain (zs : List Int) (X : Nat) (h : ¬ 9218868437227405312 < X % 9223372036854775808) : fltS zs X = if X / 9223372036854775808 = 1 then 45 :: sizeS (X % 9223372036854775808) else sizeS (X % 9223372036854775808) := by
  unfold fltS
  rw [if_neg h]
theorem fltS_nan_len (zs : List Int) (X : Nat) (hl : zs.length = 8) (h : 9218868437227405312 < X % 9223372036854775808) : (str (fltS zs X)).size = 20 := by
  unfold fltS
  rw [if_pos h]
  show ([110, 97, 110, 58] ++ byteL (hexL zs.reverse)).toArray.size = 20
  unfold byteL
  simp [hexL_length, hl]

set_option maxHeartbeats 8000000 in
set_option maxRecDepth 100000 in
theorem typesFloats_any (m n : Int) (w : World) (hm0 : 0 ≤ m) (hm1 : m < 18446744073709551616) (hn0 : 0 ≤ n) (hn1 : n < 18446744073709551616) (hT : Tabs w) :
    Calls Tryd.prog 3 #[.int .u64 m, .int .u64 n] w fun e w' => e = .returned (.bool true) ∧ Below w.heap.size w w' := by
  have hx := xor63 m hm0 hm1
  have ha := and63A m hm0 hm1
  have ha' := and63A n hn0 hn1
  obtain ⟨f, HF⟩ : ∃ f, Hid (flipN m = f) := ⟨_, rfl⟩
  have hf0 : 0 ≤ f := by have := HF.out; unfold flipN at this; split at this <;> omega
  have hf1 : f < 18446744073709551616 := by have := HF.out; unfold flipN at this; split at this <;> omega
  have hf2 : f % 9223372036854775808 = m % 9223372036854775808 := by have := HF.out; unfold flipN at this; split at this <;> omega
  have hf3 : (m < 9223372036854775808 ∧ f / 9223372036854775808 = 1) ∨ (¬ m < 9223372036854775808 ∧ f / 9223372036854775808 = 0) := by have := HF.out; unfold flipN at this; split at this <;> omega
  rw [HF.out] at hx
  have em := num_eight m hm0 hm1
  have ef := num_eight f hf0 hf1
  have en := num_eight n hn0 hn1
  have lm := bytesL_length m 8
  have lf := bytesL_length f 8
  have ln := bytesL_length n 8
  have pm := place17 (bytesL m 8) lm
  have pn := place17 (bytesL n 8) ln
  have NM := fltS_nan_len (bytesL m 8) m.toNat lm
  have NF := fltS_nan_len (bytesL f 8) f.toNat lf
  have SM : m % 9223372036854775808 ≤ 9218868437227405312 → fltS (bytesL m 8) m.toNat = (if m < 9223372036854775808 then sizeS (m % 9223372036854775808).toNat else 45 :: sizeS (m % 9223372036854775808).toNat) ∧
      fltS (bytesL f 8) f.toNat = (if m < 9223372036854775808 then 45 :: sizeS (m % 9223372036854775808).toNat else sizeS (m % 9223372036854775808).toNat) := by
    intro h
    rw [flt_plain (bytesL m 8) m.toNat (by omega), flt_plain (bytesL f 8) f.toNat (by omega), show m.toNat % 9223372036854775808 = (m % 9223372036854775808).toNat from by omega, show f.toNat % 9223372036854775808 = (m % 9223372036854775808).toNat from by omega]
    rcases hf3 with ⟨h1, h2⟩ | ⟨h1, h2⟩
    · rw [if_neg (show ¬ m.toNat / 9223372036854775808 = 1 by omega), if_pos h1, if_pos (show f.toNat / 9223372036854775808 = 1 by omega), if_pos h1]; exact ⟨rfl, rfl⟩
    · rw [if_pos (show m.toNat / 9223372036854775808 = 1 by omega), if_neg h1, if_neg (show ¬ f.toNat / 9223372036854775808 = 1 by omega), if_neg h1]; exact ⟨rfl, rfl⟩
  have CK : compB 17 (bytesL m 8) (bytesL n 8) = true → compR 17 (bytesL m 8) (bytesL n 8) = cmpN (fkey 64 m) (fkey 64 n) := fun h => by
    rw [comp17 _ _ lm ln h, em, en]
  have CB : compB 17 (bytesL m 8) (bytesL n 8) = (!decide (9218868437227405312 < m % 9223372036854775808) && !decide (9218868437227405312 < n % 9223372036854775808)) := by
    unfold compB; rw [pm, pn, em, en]
  obtain ⟨sm, HSM⟩ : ∃ s, Hid (str (fltS (bytesL m 8) m.toNat) = s) := ⟨_, rfl⟩
  obtain ⟨sf, HSF⟩ : ∃ s, Hid (str (fltS (bytesL f 8) f.toNat) = s) := ⟨_, rfl⟩
  rw [HSM.out] at NM
  rw [HSF.out] at NF
  have TM : Hid (str (fltS (bytesL m 8) (num (bytesL m 8)).toNat) = sm) := by show _ = sm; rw [em]; exact HSM.out
  have TF : Hid (str (fltS (bytesL f 8) (num (bytesL f 8)).toNat) = sf) := by show _ = sf; rw [ef]; exact HSF.out
  obtain ⟨z0, HZ0⟩ : ∃ z, Hid (bytesL m 8 = z) := ⟨_, rfl⟩
  obtain ⟨z1, HZ1⟩ : ∃ z, Hid (bytesL n 8 = z) := ⟨_, rfl⟩
  obtain ⟨z2, HZ2⟩ : ∃ z, Hid (bytesL f 8 = z) := ⟨_, rfl⟩
  rw [HZ0.out] at TM CK CB
  rw [HZ2.out] at TF
  rw [HZ1.out] at CK CB
  obtain ⟨k, HK⟩ : ∃ k, Hid (compR 17 z0 z1 = k) := ⟨_, rfl⟩
  obtain ⟨ok, HO⟩ : ∃ k, Hid (compB 17 z0 z1 = k) := ⟨_, rfl⟩
  rw [HK.out, HO.out] at CK
  rw [HO.out] at CB
  have FIN : (9218868437227405312 < m % 9223372036854775808 ∧ sm.size = 20 ∧ sf.size = 20) ∨
      (¬ 9218868437227405312 < m % 9223372036854775808 ∧ ∃ s1 : ByteArray, s1.size ≤ 60 ∧ ((m < 9223372036854775808 ∧ sm = s1 ∧ sf = ⟨#[45]⟩ ++ s1) ∨ (¬ m < 9223372036854775808 ∧ sm = ⟨#[45]⟩ ++ s1 ∧ sf = s1))) := by
    by_cases hc : 9218868437227405312 < m % 9223372036854775808
    · exact .inl ⟨hc, NM (by omega), NF (by omega)⟩
    · refine .inr ⟨hc, str (sizeS (m % 9223372036854775808).toNat), Nat.le_trans (sizeS_len _ (by omega)) (by decide), ?_⟩
      obtain ⟨e1, e2⟩ := SM (by omega)
      rw [← HSM.out, ← HSF.out, e1, e2, show (⟨#[45]⟩ : ByteArray) = str [45] from rfl, str_append]
      by_cases h : m < 9223372036854775808
      · rw [if_pos h, if_pos h]; exact .inl ⟨h, rfl, rfl⟩
      · rw [if_neg h, if_neg h]; exact .inr ⟨h, rfl, rfl⟩
  have KU : Hid (ok = true → (k = -1 ∧ upN m < upN n) ∨ (k = 0 ∧ upN m = upN n) ∨ (k = 1 ∧ upN n < upN m)) := fun h => by
    have u1 := up_key m n
    have u2 := up_key n m
    rcases cmpN_vals (fkey 64 m) (fkey 64 n) with ⟨h1, h2⟩ | ⟨h1, h2⟩ | ⟨h1, h2⟩
    · exact .inl ⟨by rw [CK h]; exact h2, u1.1 h1⟩
    · refine .inr (.inl ⟨by rw [CK h]; exact h2, ?_⟩)
      omega
    · exact .inr (.inr ⟨by rw [CK h]; exact h2, u2.1 h1⟩)
  clear NM NF SM CK em ef en lm lf ln pm pn hf2 hf3 HSM HSF HF
  go_enter Tryd.func3, Tryd.ntmps3
  go_wp2_with fail
  refine (eight_any m _ hm0 hm1).mono ?_
  rw [HZ0.out]
  rintro e w1 ⟨p0, c0, rfl, lc0, cm0, r0, hb1⟩
  go_wp2_with fail
  refine (eight_any n _ hn0 hn1).mono ?_
  rw [HZ1.out]
  rintro e w2 ⟨p1, c1, rfl, lc1, cm1, r1, hb2⟩
  have B2 : Below w.heap.size w w2 := Below.andThen hb1 hb2
  have q0 := r0.next hb2
  clear r0 hb1 hb2
  go_wp2_with fail
  refine (text17_any _ _ z0 _ q0 (hT.next B2) lc0 cm0).mono ?_
  rw [TM.out]
  rintro e w3 ⟨rfl, hb3⟩
  have B3 : Below w.heap.size w w3 := Below.andThen B2 hb3
  have q0' := q0.next hb3
  have q1' := r1.next hb3
  clear q0 r1 hb3 B2
  go_wp2_with fail
  refine (eight_any f _ hf0 hf1).mono ?_
  rw [HZ2.out]
  rintro e w4 ⟨p2, c2, rfl, lc2, cm2, r2, hb4⟩
  have B4 : Below w.heap.size w w4 := Below.andThen B3 hb4
  go_wp2_with fail
  refine (text17_any _ _ z2 _ r2 (hT.next B4) lc2 cm2).mono ?_
  rw [TF.out]
  rintro e w5 ⟨rfl, hb5⟩
  have B5 : Below w.heap.size w w5 := Below.andThen B4 hb5
  have R0 : Hid (Row w5 p0 8 z0) := (q0'.next hb4).next hb5
  have R1 : Hid (Row w5 p1 8 z1) := (q1'.next hb4).next hb5
  have T5 : Hid (Tabs w5) := hT.next B5
  clear q0' q1' hb4 hb5 B4 B3 r2 hT
  rcases FIN with ⟨c, e1, e2⟩ | ⟨c, s1, hs1, ⟨h1, e1, e2⟩ | ⟨h1, e1, e2⟩⟩
  · clear KU CB
    go_wp2_with fail
    refine (works_any _ T5.out).mono ?_
    rintro e w6 ⟨rfl, hb6⟩
    go_wp2_with fail
    go_ret
    exact ⟨rfl, Below.andThen B5 hb6⟩
  all_goals
    subst sm
    subst sf
    have ad := add_run ⟨#[45]⟩ s1 (by have : (⟨#[45]⟩ : ByteArray).size = 1 := rfl; omega)
    go_wp2_with fail
    refine (compare_any 17 p0 p1 8 c0 8 c1 z0 z1 _ R0.out R1.out T5.out.t64 lc0 cm0 lc1 cm1).mono ?_
    rw [HK.out, HO.out]
    rintro e w6 ⟨rfl, hb6⟩
    have T6 := T5.out.next hb6
    have B6 := Below.andThen B5 hb6
    clear R0 R1 T5 hb6 B5
    by_cases d : 9218868437227405312 < n % 9223372036854775808
    · have hok : ok = false := by rw [CB]; simp [d]
      subst hok
      clear KU CB
      go_wp2_with fail
      refine (works_any _ T6).mono ?_
      rintro e w7 ⟨rfl, hb7⟩
      go_wp2_with fail
      go_ret
      exact ⟨rfl, Below.andThen B6 hb7⟩
    have hok : ok = true := by rw [CB]; simp; omega
    subst hok
    have KV := KU.out rfl
    clear KU CB
    have G1 : (m < 9223372036854775808 ∧ bits .or .u64 m 9223372036854775808 = upN m) ∨ (¬ m < 9223372036854775808 ∧ bits .xor .u64 IntKind.u64.max m = upN m) := by
      by_cases h : m < 9223372036854775808
      · exact .inl ⟨h, by rw [or63 m hm0 h]; unfold upN; rw [if_pos h]⟩
      · exact .inr ⟨h, by rw [not64 m hm0 hm1]; unfold upN; rw [if_neg h]⟩
    have G2 : (n < 9223372036854775808 ∧ bits .or .u64 n 9223372036854775808 = upN n) ∨ (¬ n < 9223372036854775808 ∧ bits .xor .u64 IntKind.u64.max n = upN n) := by
      by_cases h : n < 9223372036854775808
      · exact .inl ⟨h, by rw [or63 n hn0 h]; unfold upN; rw [if_pos h]⟩
      · exact .inr ⟨h, by rw [not64 n hn0 hn1]; unfold upN; rw [if_neg h]⟩
    generalize upN m = X at *
    generalize upN n = Y at *
    rcases G1 with ⟨a1, g1⟩ | ⟨a1, g1⟩
    all_goals rcases G2 with ⟨a2, g2⟩ | ⟨a2, g2⟩
    all_goals first | (exfalso; omega) | skip
    all_goals rcases KV with ⟨rfl, hv⟩ | ⟨rfl, hv⟩ | ⟨rfl, hv⟩
    all_goals try subst hv
    all_goals
      go_wp2_with fail
      all_goals
        refine (works_any _ T6).mono ?_
        rintro e w7 ⟨rfl, hb7⟩
        go_wp2_with fail
        go_ret
        first
          | exact ⟨rfl, Below.andThen B6 hb7⟩
          | exact ⟨ret_bool (by simp; omega), Below.andThen B6 hb7⟩
#print axioms typesFloats_any
end Go.Proofs.YthoaandafmmojaaDoor
