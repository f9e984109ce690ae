/-
  The walks of math.Abs, math.IsInf and sizeText: the text of a float without a sign that is no NaN.
-/
import Derived.Test.YtkfmmpolcjbnbaaDoorUint
import Derived.Test.YtkfmmpolcjbnbaaDoorComp
namespace Go.Proofs.YtkfmmpolcjbnbaaDoor
open Pl Go.RowKit

/-- A text of these bytes. -/
def str (l : List UInt8) : ByteArray := ⟨l.toArray⟩
theorem str_append (a b : List UInt8) : str a ++ str b = str (a ++ b) := by
  unfold str
  refine ByteArray.ext ?_
  rw [ByteArray.data_append]
  simp

theorem str3 (a c : List UInt8) (b : UInt8) : (⟨a.toArray⟩ : ByteArray) ++ ⟨#[b]⟩ ++ ⟨c.toArray⟩ = str (a ++ b :: c) := by
  show str a ++ str [b] ++ str c = _
  rw [str_append, str_append]
  simp
theorem ret_str {a b : ByteArray} (h : a = b) : Ending.returned (.string a) = .returned (.string b) := by rw [h]

theorem dec_len (u : Nat) (h : u < 18446744073709551616) : (⟨(Lib.decDigits u).toArray⟩ : ByteArray).size ≤ 20 := by
  show (Lib.decDigits u).toArray.size ≤ 20
  rw [List.size_toArray]
  by_cases h0 : u = 0
  · subst h0
    rw [Lib.decDigits, dif_pos (by decide)]
    decide
  · rw [Lib.decDigits_length]
    have := Lib.numDigits_eq u (by omega) h
    split at this <;> omega
theorem itoa_len (n : Int) (h0 : -9223372036854775808 ≤ n) (h1 : n ≤ 9223372036854775807) : (⟨(Lib.itoa n).toArray⟩ : ByteArray).size ≤ 21 := by
  rcases Int.lt_or_le n 0 with h | h
  · obtain ⟨u, rfl⟩ : ∃ u : Nat, n = -(u : Int) := ⟨n.natAbs, by omega⟩
    have := dec_len u (by omega)
    rw [Lib.itoa_neg u (by omega)]
    change (Lib.decDigits u).toArray.size ≤ 20 at this
    show (45 :: Lib.decDigits u).toArray.size ≤ 21
    simp only [List.size_toArray, List.length_cons] at this ⊢
    omega
  · obtain ⟨u, rfl⟩ : ∃ u : Nat, n = (u : Int) := ⟨n.natAbs, by omega⟩
    rw [Lib.itoa_nonneg]
    have := dec_len u (by omega)
    omega
/-- Two texts, one behind the other. -/
theorem add_run (a b : ByteArray) (h : a.size + b.size ≤ 1000000) (w : World) : (Op.stringOp .add a b).run Tryd.prog w = .ok (.string (a ++ b)) w := run_string_add_sum w a b (by omega)

/-- The number m times 2 to the e, of an m that is not 0: the text of its odd m. -/
def oddS (m : Nat) (e : Int) : List UInt8 := Lib.decDigits (m / 2 ^ Lib.ctz 64 m) ++ (112 :: Lib.itoa (e + (Lib.ctz 64 m : Int)))
/-- The text of a float of 64 bits without its sign, no NaN. -/
def sizeS (R : Nat) : List UInt8 :=
  if R = 9218868437227405312 then [105, 110, 102] else if R = 0 then [48, 112, 48]
  else if R < 4503599627370496 then oddS R (-1074) else oddS (4503599627370496 + R % 4503599627370496) (-1074 + (R : Int) / 4503599627370496 - 1)

theorem order_pos (X Y : Nat) (hX : X ≤ 9218868437227405312) (hY : Y ≤ 9218868437227405312) : Ieee.double.order X Y = some (compare (X : Int) (Y : Int)) := by
  have e1 : Ieee.double.signWeight = 9223372036854775808 := by decide
  have e2 : Ieee.double.infRung = 9218868437227405312 := by decide
  have e3 : Ieee.double.binade = 4503599627370496 := by decide
  rw [order_words Ieee.double (by rw [e3]; omega) (by rw [e2, e3]; omega) X Y (by rw [e1, e2]; omega) (by rw [e1, e2]; omega)]
  rw [skey_pos X (by omega), skey_pos Y (by omega)]

theorem abs_any (X : Nat) (w : World) (hX : X < 18446744073709551616) : Calls Tryd.prog 51 #[.float .f64 X] w fun e w' => e = .returned (.float .f64 (X % 9223372036854775808)) ∧ w' = w := by
  have hfb := frombits_run
  have hbr := bits_run
  have han : bits .andNot .u64 (X : Int) 9223372036854775808 = ((X % 9223372036854775808 : Nat) : Int) := by
    have h := u64_andNot_nat X 9223372036854775808 hX (by decide)
    rw [show ((9223372036854775808 : Nat) : Int) = (9223372036854775808 : Int) from rfl] at h
    rw [h, show X &&& (18446744073709551615 - 9223372036854775808) = X % 9223372036854775808 from Nat.and_two_pow_sub_one_eq_mod X 63]
  go_enter Tryd.func51, Tryd.ntmps51
  go_wp2
  go_ret
  exact ⟨rfl, rfl⟩

theorem isInf_any (R : Nat) (w : World) (hR : R ≤ 9218868437227405312) : Calls Tryd.prog 75 #[.float .f64 R, .int .i64 1] w fun e w' => e = .returned (.bool (decide (R = 9218868437227405312))) ∧ w' = w := by
  have ho : (FloatKind.f64.format.order R 9218868437227405311 == some Ordering.gt) = decide (R = 9218868437227405312) := by
    have h := order_pos R 9218868437227405311 hR (by decide)
    change (Ieee.double.order R 9218868437227405311 == some Ordering.gt) = _
    rw [h]
    by_cases hc : R = 9218868437227405312
    · subst hc; decide
    · have hn : compare (R : Int) ((9218868437227405311 : Nat) : Int) ≠ Ordering.gt := fun hg => by
        have := (some_gt (R : Int) ((9218868437227405311 : Nat) : Int)).1 (by rw [hg])
        omega
      rw [decide_eq_false hc, beq_eq_false_iff_ne]
      exact fun hg => hn (Option.some.inj hg)
  go_enter Tryd.func75, Tryd.ntmps75
  go_wp2
  go_ret
  exact ⟨rfl, rfl⟩

set_option maxHeartbeats 2000000 in
set_option maxRecDepth 100000 in
theorem sizeText_any (R : Nat) (w : World) (hR : R ≤ 9218868437227405312) (hT : Tabs w) :
    Calls Tryd.prog 50 #[.float .f64 R] w fun e w' => e = .returned (.string (str (sizeS R))) ∧ Below w.heap.size w w' := by
  have hbr := bits_run
  by_cases c1 : R = 9218868437227405312
  · have H : Hid (sizeS R = [105, 110, 102]) := by show sizeS R = _; unfold sizeS; rw [if_pos c1]
    have hd : decide (R = 9218868437227405312) = true := by simp [c1]
    clear c1
    go_enter Tryd.func50, Tryd.ntmps50
    go_wp2_with fail
    refine (isInf_any R _ hR).mono ?_
    rw [hd]
    rintro e w ⟨rfl, rfl⟩
    go_wp2_with fail
    go_ret
    exact ⟨by rw [H.out]; rfl, Below.refl _ _⟩
  have hd : decide (R = 9218868437227405312) = false := by simp [c1]
  by_cases c2 : R = 0
  · subst c2
    have ho : (FloatKind.f64.format.order 0 0 == some Ordering.eq) = true := by decide +kernel
    go_enter Tryd.func50, Tryd.ntmps50
    go_wp2_with fail
    refine (isInf_any 0 _ hR).mono ?_
    rw [hd]
    rintro e w ⟨rfl, rfl⟩
    go_wp2_with fail
    go_ret
    exact ⟨rfl, Below.refl _ _⟩
  have ho : (FloatKind.f64.format.order R 0 == some Ordering.eq) = false := by
    change (Ieee.double.order R 0 == some Ordering.eq) = false
    rw [order_pos R 0 hR (by decide), beq_eq_false_iff_ne]
    intro hg
    have h3 : compare (R : Int) ((0 : Nat) : Int) = Ordering.eq := Option.some.inj hg
    rw [Int.compare_eq_eq] at h3
    omega
  by_cases c3 : R < 4503599627370496
  · have H : Hid (sizeS R = oddS R (-1074)) := by show sizeS R = _; unfold sizeS; rw [if_neg c1, if_neg c2, if_pos c3]
    have hz := Lib.lowest_bit 64 R c2 (by omega)
    have hq : R / 2 ^ Lib.ctz 64 R < 18446744073709551616 := Nat.lt_of_le_of_lt (Nat.div_le_self _ _) (by omega)
    have h3 : (R : Int) < 4503599627370496 := by omega
    obtain ⟨m, HM⟩ : ∃ m, Hid (R / 2 ^ Lib.ctz 64 R = m) := ⟨_, rfl⟩
    obtain ⟨z, HZ⟩ : ∃ z, Hid (Lib.ctz 64 R = z) := ⟨_, rfl⟩
    rw [HM.out] at hq
    have hz2 := hz.2
    rw [HZ.out] at hz2
    have hz3 : (z : Int) < 64 := by omega
    have HO : Hid (oddS R (-1074) = Lib.decDigits m ++ (112 :: Lib.itoa (-1074 + (z : Int)))) := by show oddS R (-1074) = _; unfold oddS; rw [HM.out, HZ.out]
    clear hz c1
    obtain ⟨s1, HS1⟩ : ∃ s, Hid ((⟨(Lib.decDigits m).toArray⟩ : ByteArray) = s) := ⟨_, rfl⟩
    obtain ⟨s2, HS2⟩ : ∃ s, Hid ((⟨(Lib.itoa (-1074 + (z : Int))).toArray⟩ : ByteArray) = s) := ⟨_, rfl⟩
    have z1 := dec_len m hq
    have z2 := itoa_len (-1074 + (z : Int)) (by omega) (by omega)
    rw [HS1.out] at z1
    rw [HS2.out] at z2
    have ad1 := add_run s1 ⟨#[112]⟩ (by have : (⟨#[112]⟩ : ByteArray).size = 1 := rfl; omega)
    have ad2 := add_run (s1 ++ ⟨#[112]⟩) s2 (by rw [ByteArray.size_append]; have : (⟨#[112]⟩ : ByteArray).size = 1 := rfl; omega)
    clear z1 z2
    go_enter Tryd.func50, Tryd.ntmps50
    go_wp2_with fail
    refine (isInf_any R _ hR).mono ?_
    rw [hd]
    rintro e w ⟨rfl, rfl⟩
    go_wp2_with fail
    refine (layoutOf64 _).mono ?_
    rintro e w1 ⟨rfl, hw1⟩
    have B1 : Below w.heap.size w w1 := by rw [← hw1]; exact Below.al (Below.refl _ _) _
    clear hw1
    go_wp2_with fail
    refine (apartLow64 R _ (by omega) h3).mono ?_
    rintro e w2 ⟨rfl, hb2⟩
    have B2 : Below w.heap.size w w2 := Below.andThen B1 hb2
    have T2 := hT.next B2
    clear hb2 B1
    go_wp2_with fail
    refine (odd_any R (-1074) _ c2 (by omega) (by decide) (by decide) T2.t64).mono ?_
    rw [HM.out, HZ.out]
    rintro e w ⟨rfl, rfl⟩
    go_wp2_with fail
    refine (decimalText_any m hq _ T2).mono ?_
    rw [HS1.out]
    rintro e w3 ⟨rfl, hb3⟩
    have T3 := T2.next hb3
    go_wp2_with fail
    refine (Tryd.strconv_Itoa (-1074 + (z : Int)) (by omega) (by omega) _ T3.p10).mono ?_
    rw [HS2.out]
    rintro e w4 ⟨rfl, k, os, rfl⟩
    go_wp2_with fail
    go_ret
    rw [H.out, HO.out]
    exact ⟨ret_str (by rw [← HS1.out, ← HS2.out]; exact str3 _ _ _), Below.andThen (Below.andThen B2 hb3) (below_grow _ _ _)⟩
  · have hn3 : 4503599627370496 ≤ (R : Int) := by omega
    have hn4 : (R : Int) < 9218868437227405312 := by omega
    have hmm : (4503599627370496 + (R : Int) % 4503599627370496) = ((4503599627370496 + R % 4503599627370496 : Nat) : Int) := by omega
    have H : Hid (sizeS R = oddS (4503599627370496 + R % 4503599627370496) (-1074 + (R : Int) / 4503599627370496 - 1)) := by show sizeS R = _; unfold sizeS; rw [if_neg c1, if_neg c2, if_neg c3]
    obtain ⟨q, HQ⟩ : ∃ q, Hid (4503599627370496 + R % 4503599627370496 = q) := ⟨_, rfl⟩
    have hq0 : q ≠ 0 := by have := HQ.out; omega
    have hq1 : q < 18446744073709551616 := by have := HQ.out; omega
    rw [HQ.out] at hmm H
    obtain ⟨E, HE⟩ : ∃ E, Hid (-1074 + (R : Int) / 4503599627370496 - 1 = E) := ⟨_, rfl⟩
    have hE0 : -1074 ≤ E := by have := HE.out; omega
    have hE1 : E ≤ 2000 := by have := HE.out; omega
    rw [HE.out] at H
    have hz := Lib.lowest_bit 64 q hq0 hq1
    have hq : q / 2 ^ Lib.ctz 64 q < 18446744073709551616 := Nat.lt_of_le_of_lt (Nat.div_le_self _ _) (by omega)
    obtain ⟨m, HM⟩ : ∃ m, Hid (q / 2 ^ Lib.ctz 64 q = m) := ⟨_, rfl⟩
    obtain ⟨z, HZ⟩ : ∃ z, Hid (Lib.ctz 64 q = z) := ⟨_, rfl⟩
    rw [HM.out] at hq
    have hz2 := hz.2
    rw [HZ.out] at hz2
    have hz3 : (z : Int) < 64 := by omega
    have HO : Hid (oddS q E = Lib.decDigits m ++ (112 :: Lib.itoa (E + (z : Int)))) := by show oddS q E = _; unfold oddS; rw [HM.out, HZ.out]
    have HMM : Hid ((4503599627370496 + (R : Int) % 4503599627370496) = (q : Int)) := hmm
    clear hz c1 c2 c3 hmm
    obtain ⟨s1, HS1⟩ : ∃ s, Hid ((⟨(Lib.decDigits m).toArray⟩ : ByteArray) = s) := ⟨_, rfl⟩
    obtain ⟨s2, HS2⟩ : ∃ s, Hid ((⟨(Lib.itoa (E + (z : Int))).toArray⟩ : ByteArray) = s) := ⟨_, rfl⟩
    have z1 := dec_len m hq
    have z2 := itoa_len (E + (z : Int)) (by omega) (by omega)
    rw [HS1.out] at z1
    rw [HS2.out] at z2
    have ad1 := add_run s1 ⟨#[112]⟩ (by have : (⟨#[112]⟩ : ByteArray).size = 1 := rfl; omega)
    have ad2 := add_run (s1 ++ ⟨#[112]⟩) s2 (by rw [ByteArray.size_append]; have : (⟨#[112]⟩ : ByteArray).size = 1 := rfl; omega)
    clear z1 z2
    go_enter Tryd.func50, Tryd.ntmps50
    go_wp2_with fail
    refine (isInf_any R _ hR).mono ?_
    rw [hd]
    rintro e w ⟨rfl, rfl⟩
    go_wp2_with fail
    refine (layoutOf64 _).mono ?_
    rintro e w1 ⟨rfl, hw1⟩
    have B1 : Below w.heap.size w w1 := by rw [← hw1]; exact Below.al (Below.refl _ _) _
    clear hw1
    go_wp2_with fail
    refine (apartHigh64 R _ hn3 hn4).mono ?_
    rw [HMM.out, HE.out]
    rintro e w2 ⟨rfl, hb2⟩
    have B2 : Below w.heap.size w w2 := Below.andThen B1 hb2
    have T2 := hT.next B2
    clear hb2 B1
    go_wp2_with fail
    refine (odd_any q E _ hq0 hq1 (by omega) (by omega) T2.t64).mono ?_
    rw [HM.out, HZ.out]
    rintro e w ⟨rfl, rfl⟩
    go_wp2_with fail
    refine (decimalText_any m hq _ T2).mono ?_
    rw [HS1.out]
    rintro e w3 ⟨rfl, hb3⟩
    have T3 := T2.next hb3
    go_wp2_with fail
    refine (Tryd.strconv_Itoa (E + (z : Int)) (by omega) (by omega) _ T3.p10).mono ?_
    rw [HS2.out]
    rintro e w4 ⟨rfl, k, os, rfl⟩
    go_wp2_with fail
    go_ret
    rw [H.out, HO.out]
    exact ⟨ret_str (by rw [← HS1.out, ← HS2.out]; exact str3 _ _ _), Below.andThen (Below.andThen B2 hb3) (below_grow _ _ _)⟩
#print axioms sizeText_any
end Go.Proofs.YtkfmmpolcjbnbaaDoor
