/-
  The walks of readNaN and readFloat, of both sizes.
-/
import Derived.Test.YtkfmmpolcjbnbaaDoorRdF
namespace Go.Proofs.YtkfmmpolcjbnbaaDoor
open Pl Go.RowKit

theorem hexF_lt (g : Bool) : ∀ (l : List UInt8) (a n : Nat), hexF g a l = some n → n < (a + 1) * 16 ^ l.length
  | [], a, n, h => by simp [hexF] at h; subst h; simp
  | c :: l, a, n, h => by
    simp only [hexF] at h
    cases hc : hexC g c.toNat with
    | none => rw [hc] at h; simp at h
    | some d =>
      rw [hc] at h
      have hd := hexC_lt g _ _ hc
      have := hexF_lt g l (16 * a + d) n h
      refine Nat.lt_of_lt_of_le this ?_
      rw [List.length_cons, Nat.pow_succ, Nat.mul_comm (16 ^ l.length) 16, ← Nat.mul_assoc]
      exact Nat.mul_le_mul_right _ (by omega)

theorem andNot63 (n : Nat) (h : n < 18446744073709551616) : bits .andNot .u64 (n : Int) 9223372036854775808 = ((n % 9223372036854775808 : Nat) : Int) := by
  have e : bits .andNot .u64 (n : Int) 9223372036854775808 = bits .and .u64 (n : Int) ((9223372036854775807 : Nat) : Int) := by
    show IntKind.u64.wrap ((BitVec.ofInt 64 (n : Int) &&& ~~~(BitVec.ofInt 64 9223372036854775808)).toNat : Int) = IntKind.u64.wrap ((BitVec.ofInt 64 (n : Int) &&& BitVec.ofInt 64 ((9223372036854775807 : Nat) : Int)).toNat : Int)
    rw [show ~~~(BitVec.ofInt 64 9223372036854775808) = BitVec.ofInt 64 ((9223372036854775807 : Nat) : Int) from by decide]
  rw [e, u64_and_nat n 9223372036854775807 h (by decide), show n &&& 9223372036854775807 = n % 9223372036854775808 from Nat.and_two_pow_sub_one_eq_mod n 63]
theorem andNot31 (n : Nat) (h : n < 4294967296) : bits .andNot .u64 (n : Int) 2147483648 = ((n % 2147483648 : Nat) : Int) := by
  have e : bits .andNot .u64 (n : Int) 2147483648 = bits .and .u64 (n : Int) ((18446744071562067967 : Nat) : Int) := by
    show IntKind.u64.wrap ((BitVec.ofInt 64 (n : Int) &&& ~~~(BitVec.ofInt 64 2147483648)).toNat : Int) = IntKind.u64.wrap ((BitVec.ofInt 64 (n : Int) &&& BitVec.ofInt 64 ((18446744071562067967 : Nat) : Int)).toNat : Int)
    rw [show ~~~(BitVec.ofInt 64 2147483648) = BitVec.ofInt 64 ((18446744071562067967 : Nat) : Int) from by decide]
  rw [e, u64_and_nat n 18446744071562067967 (by omega) (by decide)]
  have h1 : n &&& 4294967295 = n := by rw [show n &&& 4294967295 = n % 4294967296 from Nat.and_two_pow_sub_one_eq_mod n 32]; omega
  have h2 : n &&& 18446744071562067967 = n &&& 2147483647 := by
    conv => lhs; rw [← h1]
    rw [Nat.and_assoc]
    rfl
  rw [h2, show n &&& 2147483647 = n % 2147483648 from Nat.and_two_pow_sub_one_eq_mod n 31]
theorem togV_lt (fb b m : Nat) (e : Int) (R : Nat) (hm : m < 18446744073709551616) (h : togV fb (b : Int) m e = some R) : R < (2 * b + 1) * 2 ^ fb := by
  have hp := Nat.two_pow_pos fb
  have hbig : 2 ^ fb ≤ (2 * b + 1) * 2 ^ fb := Nat.le_mul_of_pos_left _ (by omega)
  by_cases h0 : m = 0
  · unfold togV at h
    rw [if_pos h0] at h
    cases h
    omega
  obtain ⟨M, z, L, hg, hz, hmz, hodd, hL1, hL64, hM1, hM2, hM64⟩ := ctz_split m h0 hm
  unfold togV at h
  rw [if_neg h0, hg.hz, hg.hM, hg.hL] at h
  unfold togM at h
  by_cases c1 : e + (z : Int) < 1 - (b : Int) - fb ∨ (b : Int) < e + (z : Int) + L - 1 ∨ fb + 1 < L
  · rw [if_pos c1] at h; cases h
  rw [if_neg c1] at h
  obtain ⟨k, hk⟩ : ∃ k : Nat, e + (z : Int) = (k : Int) + (1 - (b : Int) - fb) := ⟨(e + (z : Int) - (1 - (b : Int) - fb)).toNat, by omega⟩
  by_cases c2 : e + (z : Int) + L - 1 < 1 - (b : Int)
  · rw [if_pos c2] at h
    have e1 : (e + (z : Int) - (1 - (b : Int) - fb)).toNat = k := by omega
    rw [e1] at h
    have hs := (tog_small fb k L M hM2 (by omega)).1
    cases h
    omega
  · rw [if_neg c2] at h
    have e1 : (e + (z : Int) + L - 1 + (b : Int)).toNat = k + L - fb := by omega
    rw [e1] at h
    obtain ⟨t1, t2, t3⟩ := tog_big fb k L M hM1 hM2 hL1 (by omega) (by omega)
    have hle : k + L - fb ≤ 2 * b := by omega
    have h2 : (k + L - fb) * 2 ^ fb ≤ 2 * b * 2 ^ fb := Nat.mul_le_mul_right _ hle
    rw [Nat.pow_succ] at t2
    rw [Nat.add_mul, Nat.one_mul]
    cases h
    omega
theorem szV_le (fb b : Nat) (l : List UInt8) (n : Nat) (h : szV fb (b : Int) ((2 * b + 1) * 2 ^ fb) l = some n) : n ≤ (2 * b + 1) * 2 ^ fb := by
  unfold szV at h
  by_cases h0 : l = [105, 110, 102]
  · rw [if_pos h0] at h; cases h; exact Nat.le_refl _
  rw [if_neg h0] at h
  cases hc : cutU 112 l with
  | none => rw [hc] at h; cases h
  | some p =>
    rw [hc] at h
    replace h : ((sgnV 9999 9999 p.2).bind fun q => (decV 18446744073709551615 p.1).bind fun m => togV fb (b : Int) m (toI q)) = some n := h
    cases hs : sgnV 9999 9999 p.2 with
    | none => rw [hs] at h; cases h
    | some q =>
      rw [hs] at h
      replace h : ((decV 18446744073709551615 p.1).bind fun m => togV fb (b : Int) m (toI q)) = some n := h
      cases hd : decV 18446744073709551615 p.1 with
      | none => rw [hd] at h; cases h
      | some m =>
        rw [hd] at h
        have hm : m ≤ 18446744073709551615 := by
          unfold decV at hd
          split at hd
          · exact decFold_le _ _ 0 m (Nat.zero_le _) hd
          · cases hd
        exact Nat.le_of_lt (togV_lt fb b m (toI q) n (by omega) h)

/-- The bits of a NaN that its digits tell. -/
def nan64V (l : List UInt8) : Option Nat := if l.length = 16 then (hexF false 0 l).bind fun n => if 9218868437227405312 < n % 9223372036854775808 then some n else none else none
/-- The bits of a float. -/
def flt64V (l : List UInt8) : Option Nat :=
  if Lib.hasPrefix l [110, 97, 110, 58] = true then nan64V (Lib.trimPrefix l [110, 97, 110, 58])
  else if l.head? = some 45 then (szV 52 1023 9218868437227405312 l.tail).map fun n => n + 9223372036854775808 else szV 52 1023 9218868437227405312 l

set_option maxHeartbeats 4000000 in
set_option maxRecDepth 100000 in
theorem nanRd64_any (l : List UInt8) (w : World) :
    Calls Tryd.prog 60 #[.string (str l), .int .i64 8] w fun e w' => e = endU (nan64V l) ∧ Below w.heap.size w w' := by
  obtain ⟨sl, HSL, _, hsz, _⟩ := str_facts l
  by_cases c1 : l.length = 16
  rotate_left
  · have b1 : ((l.length : Int) == 16) = false := by simp; omega
    rw [show nan64V l = none from by unfold nan64V; rw [if_neg c1], HSL.out]
    clear c1
    go_enter Tryd.func60, Tryd.ntmps60
    go_wp2_with fail
    refine (must_false _).mono ?_
    rintro e w ⟨rfl, rfl⟩
    go_wp2_with fail
    exact ⟨rfl, rfl, Below.refl _ _⟩
  have b1 : ((l.length : Int) == 16) = true := by simp; omega
  have hh := fun w => hexRd_any false l w (by omega)
  have HV : Hid (nan64V l = (hexF false 0 l).bind fun n => if 9218868437227405312 < n % 9223372036854775808 then some n else none) := by show _ = _; unfold nan64V; rw [if_pos c1]
  have HN : Hid (∀ n, hexF false 0 l = some n → n < 18446744073709551616) := fun n hn => by have := hexF_lt false l 0 n hn; rw [c1] at this; exact this
  rw [HV.out]
  rw [HSL.out] at hh ⊢
  clear HV c1
  generalize hexF false 0 l = v at *
  cases v with
  | none =>
    have HH : Hid (∀ w : World, Calls Tryd.prog 59 #[.string sl, .bool false] w fun e w' => e = .panicked bad ∧ w' = w) := hh
    show Calls _ _ _ _ fun e w' => e = .panicked bad ∧ Below w.heap.size w w'
    clear hh HN
    go_enter Tryd.func60, Tryd.ntmps60
    go_wp2_with fail
    refine (must_true _).mono ?_
    rintro e w ⟨rfl, rfl⟩
    go_wp2_with fail
    refine (HH.out _).mono ?_
    rintro e w ⟨rfl, rfl⟩
    go_wp2_with fail
    exact ⟨rfl, rfl, Below.refl _ _⟩
  | some n =>
    have HH : Hid (∀ w : World, Calls Tryd.prog 59 #[.string sl, .bool false] w fun e w' => e = .returned (.int .u64 (n : Int)) ∧ w' = w) := hh
    have hn := HN.out n rfl
    have an := andNot63 n hn
    show Calls _ _ _ _ fun e w' => e = endU (if 9218868437227405312 < n % 9223372036854775808 then some n else none) ∧ Below w.heap.size w w'
    clear hh HN
    generalize n % 9223372036854775808 = r at *
    by_cases c2 : 9218868437227405312 < r
    · have g2 : (9218868437227405312 : Int) < (r : Int) := by omega
      rw [if_pos c2]
      clear c2
      go_enter Tryd.func60, Tryd.ntmps60
      go_wp2_with fail
      refine (must_true _).mono ?_
      rintro e w ⟨rfl, rfl⟩
      go_wp2_with fail
      refine (HH.out _).mono ?_
      rintro e w ⟨rfl, rfl⟩
      go_wp2_with fail
      refine (layoutOf64 _).mono ?_
      rintro e w1 ⟨rfl, HW1⟩
      have hb1 : Below w.heap.size w w1 := by rw [← HW1]; exact Below.al (Below.refl _ _) _
      clear HW1
      go_wp2_with fail
      refine (infinity64 _).mono ?_
      rintro e w2 ⟨rfl, HW2⟩
      have hb2 : Below w.heap.size w w2 := by rw [← HW2]; exact Below.al hb1 _
      clear HW2
      go_wp2_with fail
      refine (must_true _).mono ?_
      rintro e w2 ⟨rfl, rfl⟩
      go_wp2_with fail
      go_ret
      exact ⟨rfl, hb2⟩
    · have g2 : ¬ (9218868437227405312 : Int) < (r : Int) := by omega
      rw [if_neg c2]
      clear c2
      go_enter Tryd.func60, Tryd.ntmps60
      go_wp2_with fail
      refine (must_true _).mono ?_
      rintro e w ⟨rfl, rfl⟩
      go_wp2_with fail
      refine (HH.out _).mono ?_
      rintro e w ⟨rfl, rfl⟩
      go_wp2_with fail
      refine (layoutOf64 _).mono ?_
      rintro e w1 ⟨rfl, HW1⟩
      have hb1 : Below w.heap.size w w1 := by rw [← HW1]; exact Below.al (Below.refl _ _) _
      clear HW1
      go_wp2_with fail
      refine (infinity64 _).mono ?_
      rintro e w2 ⟨rfl, HW2⟩
      have hb2 : Below w.heap.size w w2 := by rw [← HW2]; exact Below.al hb1 _
      clear HW2
      go_wp2_with fail
      first
        | refine (must_false _).mono ?_
        | (rw [show decide ((9218868437227405312 : Int) < (r : Int)) = false from by simp; omega]; refine (must_false _).mono ?_)
        | (rw [show decide (9218868437227405312 < r) = false from by simp; omega]; refine (must_false _).mono ?_)
      rintro e w2 ⟨rfl, rfl⟩
      go_wp2_with fail
      exact ⟨rfl, rfl, hb2⟩

set_option maxHeartbeats 4000000 in
set_option maxRecDepth 100000 in
theorem floatRd64_any (l : List UInt8) (w : World) (hl : l.length ≤ 1000000) (hT : Tab64 w) :
    Calls Tryd.prog 36 #[.string (str l), .int .i64 8] w fun e w' => e = endU (flt64V l) ∧ Below w.heap.size w w' := by
  have hcp := fun w => Tryd.strings_CutPrefix (str l) ⟨#[110, 97, 110, 58]⟩ w
  rw [show (str l).data.toList = l from rfl, show (⟨#[110, 97, 110, 58]⟩ : ByteArray).data.toList = [110, 97, 110, 58] from rfl] at hcp
  obtain ⟨sl, HSL⟩ : ∃ s, Hid (str l = s) := ⟨_, rfl⟩
  by_cases a0 : Lib.hasPrefix l [110, 97, 110, 58] = true
  · rw [a0] at hcp
    rw [show flt64V l = nan64V (Lib.trimPrefix l [110, 97, 110, 58]) from by unfold flt64V; rw [if_pos a0]]
    have hn := fun w => nanRd64_any (Lib.trimPrefix l [110, 97, 110, 58]) w
    clear a0
    generalize Lib.trimPrefix l [110, 97, 110, 58] = r at *
    have HC : Hid (∀ w : World, Calls Tryd.prog 57 #[.string (str l), .string ⟨#[110, 97, 110, 58]⟩] w fun e w' => e = .returned (.tuple #[.string (str r), .bool true]) ∧ w' = w) := hcp
    rw [HSL.out] at HC ⊢
    generalize str r = sr at *
    generalize nan64V r = v at *
    clear hcp
    cases v with
    | none =>
      have HN : Hid (∀ w : World, Calls Tryd.prog 60 #[.string sr, .int .i64 8] w fun e w' => e = .panicked bad ∧ Below w.heap.size w w') := hn
      clear hn
      go_enter Tryd.func36, Tryd.ntmps36
      go_wp2_with fail
      refine (HC.out _).mono ?_
      rintro e w ⟨rfl, rfl⟩
      go_wp2_with fail
      refine (HN.out _).mono ?_
      rintro e w1 ⟨rfl, hb⟩
      go_wp2_with fail
      exact ⟨rfl, rfl, hb⟩
    | some n =>
      have HN : Hid (∀ w : World, Calls Tryd.prog 60 #[.string sr, .int .i64 8] w fun e w' => e = .returned (.int .u64 (n : Int)) ∧ Below w.heap.size w w') := hn
      clear hn
      go_enter Tryd.func36, Tryd.ntmps36
      go_wp2_with fail
      refine (HC.out _).mono ?_
      rintro e w ⟨rfl, rfl⟩
      go_wp2_with fail
      refine (HN.out _).mono ?_
      rintro e w1 ⟨rfl, hb⟩
      go_wp2_with fail
      go_ret
      exact ⟨rfl, hb⟩
  have a0' : Lib.hasPrefix l [110, 97, 110, 58] = false := by simpa using a0
  rw [a0'] at hcp
  obtain ⟨st, HC⟩ : ∃ st, Hid (∀ w : World, Calls Tryd.prog 57 #[.string (str l), .string ⟨#[110, 97, 110, 58]⟩] w fun e w' => e = .returned (.tuple #[.string st, .bool false]) ∧ w' = w) := ⟨_, hcp⟩
  have hcm := fun w => Tryd.strings_CutPrefix (str l) ⟨#[45]⟩ w
  have tr := trim_one l 45
  rw [show (str l).data.toList = l from rfl, show (⟨#[45]⟩ : ByteArray).data.toList = [45] from rfl, tr.1] at hcm
  have old := hT.old
  by_cases a1 : l.head? = some 45
  · rw [tr.2 a1, show (l.head? == some 45) = true from by simp [a1]] at hcm
    have HM : Hid (∀ w : World, Calls Tryd.prog 57 #[.string (str l), .string ⟨#[45]⟩] w fun e w' => e = .returned (.tuple #[.string (str l.tail), .bool true]) ∧ w' = w) := hcm
    rw [show flt64V l = (szV 52 1023 9218868437227405312 l.tail).map fun n => n + 9223372036854775808 from by unfold flt64V; rw [if_neg a0, if_pos a1]]
    have hs := fun w hT => sizeRd64_any l.tail w (by rw [List.length_tail]; omega) hT
    have LE := fun n h => szV_le 52 1023 l.tail n h
    rw [HSL.out] at HC HM ⊢
    clear hcp hcm a0 a0' a1 tr
    generalize str l.tail = sr at *
    replace LE : ∀ n, szV 52 1023 9218868437227405312 l.tail = some n → n ≤ 9218868437227405312 := LE
    generalize szV 52 1023 9218868437227405312 l.tail = v at *
    cases v with
    | none =>
      have HS : Hid (∀ w : World, Tab64 w → Calls Tryd.prog 61 #[.string sr, .agg #[.int .i64 52, .int .i64 1023]] w fun e w' => e = .panicked bad ∧ Below w.heap.size w w') := hs
      clear hs LE
      show Calls _ _ _ _ fun e w' => e = .panicked bad ∧ Below w.heap.size w w'
      go_enter Tryd.func36, Tryd.ntmps36
      go_wp2_with fail
      refine (HC.out _).mono ?_
      rintro e w ⟨rfl, rfl⟩
      go_wp2_with fail
      refine (HM.out _).mono ?_
      rintro e w ⟨rfl, rfl⟩
      go_wp2_with fail
      refine (layoutOf64 _).mono ?_
      rintro e w1 ⟨rfl, HW1⟩
      have hb1 : Below w.heap.size w w1 := by rw [← HW1]; exact Below.al (Below.refl _ _) _
      clear HW1
      go_wp2_with fail
      refine (HS.out _ (hT.below hb1 old)).mono ?_
      rintro e w2 ⟨rfl, hb2⟩
      go_wp2_with fail
      exact ⟨rfl, rfl, Below.andThen hb1 hb2⟩
    | some n =>
      have HS : Hid (∀ w : World, Tab64 w → Calls Tryd.prog 61 #[.string sr, .agg #[.int .i64 52, .int .i64 1023]] w fun e w' => e = .returned (.int .u64 (n : Int)) ∧ Below w.heap.size w w') := hs
      have hn := LE n rfl
      have orr : bits .or .u64 (n : Int) 9223372036854775808 = ((n + 9223372036854775808 : Nat) : Int) := by
        have hk := bits_join .u64 64 (by decide) wraps_u64 63 (9223372036854775808 : Int) (n : Int) (by omega) (by decide) (by decide) (by omega) (by show (n : Int) < 9223372036854775808; omega) (by have : (2:Int)^64 = 18446744073709551616 := rfl; rw [this]; omega)
        have h1 := u64_or_nat n 9223372036854775808 (by omega) (by decide)
        have h2 := u64_or_nat 9223372036854775808 n (by decide) (by omega)
        rw [Nat.or_comm, ← h2] at h1
        refine h1.trans (hk.trans ?_)
        omega
      clear hs LE
      show Calls _ _ _ _ fun e w' => e = .returned (.int .u64 ((n + 9223372036854775808 : Nat) : Int)) ∧ Below w.heap.size w w'
      generalize n + 9223372036854775808 = q at *
      go_enter Tryd.func36, Tryd.ntmps36
      go_wp2_with fail
      refine (HC.out _).mono ?_
      rintro e w ⟨rfl, rfl⟩
      go_wp2_with fail
      refine (HM.out _).mono ?_
      rintro e w ⟨rfl, rfl⟩
      go_wp2_with fail
      refine (layoutOf64 _).mono ?_
      rintro e w1 ⟨rfl, HW1⟩
      have hb1 : Below w.heap.size w w1 := by rw [← HW1]; exact Below.al (Below.refl _ _) _
      clear HW1
      go_wp2_with fail
      refine (HS.out _ (hT.below hb1 old)).mono ?_
      rintro e w2 ⟨rfl, hb2⟩
      go_wp2_with fail
      go_ret
      exact ⟨rfl, Below.andThen hb1 hb2⟩
  · rw [show (l.head? == some 45) = false from by simpa using a1] at hcm
    have htr : Lib.trimPrefix l [45] = l := by unfold Lib.trimPrefix; rw [tr.1, if_neg (by simpa using a1)]
    rw [htr] at hcm
    have HM : Hid (∀ w : World, Calls Tryd.prog 57 #[.string (str l), .string ⟨#[45]⟩] w fun e w' => e = .returned (.tuple #[.string (str l), .bool false]) ∧ w' = w) := hcm
    rw [show flt64V l = szV 52 1023 9218868437227405312 l from by unfold flt64V; rw [if_neg a0, if_neg a1]]
    have hs := fun w hT => sizeRd64_any l w hl hT
    rw [HSL.out] at HC HM hs ⊢
    clear hcp hcm a0 a0' a1 tr htr
    generalize szV 52 1023 9218868437227405312 l = v at *
    cases v with
    | none =>
      have HS : Hid (∀ w : World, Tab64 w → Calls Tryd.prog 61 #[.string sl, .agg #[.int .i64 52, .int .i64 1023]] w fun e w' => e = .panicked bad ∧ Below w.heap.size w w') := hs
      clear hs
      show Calls _ _ _ _ fun e w' => e = .panicked bad ∧ Below w.heap.size w w'
      go_enter Tryd.func36, Tryd.ntmps36
      go_wp2_with fail
      refine (HC.out _).mono ?_
      rintro e w ⟨rfl, rfl⟩
      go_wp2_with fail
      refine (HM.out _).mono ?_
      rintro e w ⟨rfl, rfl⟩
      go_wp2_with fail
      refine (layoutOf64 _).mono ?_
      rintro e w1 ⟨rfl, HW1⟩
      have hb1 : Below w.heap.size w w1 := by rw [← HW1]; exact Below.al (Below.refl _ _) _
      clear HW1
      go_wp2_with fail
      refine (HS.out _ (hT.below hb1 old)).mono ?_
      rintro e w2 ⟨rfl, hb2⟩
      go_wp2_with fail
      exact ⟨rfl, rfl, Below.andThen hb1 hb2⟩
    | some n =>
      have HS : Hid (∀ w : World, Tab64 w → Calls Tryd.prog 61 #[.string sl, .agg #[.int .i64 52, .int .i64 1023]] w fun e w' => e = .returned (.int .u64 (n : Int)) ∧ Below w.heap.size w w') := hs
      clear hs
      show Calls _ _ _ _ fun e w' => e = .returned (.int .u64 (n : Int)) ∧ Below w.heap.size w w'
      go_enter Tryd.func36, Tryd.ntmps36
      go_wp2_with fail
      refine (HC.out _).mono ?_
      rintro e w ⟨rfl, rfl⟩
      go_wp2_with fail
      refine (HM.out _).mono ?_
      rintro e w ⟨rfl, rfl⟩
      go_wp2_with fail
      refine (layoutOf64 _).mono ?_
      rintro e w1 ⟨rfl, HW1⟩
      have hb1 : Below w.heap.size w w1 := by rw [← HW1]; exact Below.al (Below.refl _ _) _
      clear HW1
      go_wp2_with fail
      refine (HS.out _ (hT.below hb1 old)).mono ?_
      rintro e w2 ⟨rfl, hb2⟩
      go_wp2_with fail
      go_ret
      exact ⟨rfl, Below.andThen hb1 hb2⟩
#print axioms floatRd64_any

/-- The bits of a NaN that its digits tell. -/
def nan32V (l : List UInt8) : Option Nat := if l.length = 8 then (hexF false 0 l).bind fun n => if 2139095040 < n % 2147483648 then some n else none else none
/-- The bits of a float. -/
def flt32V (l : List UInt8) : Option Nat :=
  if Lib.hasPrefix l [110, 97, 110, 58] = true then nan32V (Lib.trimPrefix l [110, 97, 110, 58])
  else if l.head? = some 45 then (szV 23 127 2139095040 l.tail).map fun n => n + 2147483648 else szV 23 127 2139095040 l

set_option maxHeartbeats 4000000 in
set_option maxRecDepth 100000 in
theorem nanRd32_any (l : List UInt8) (w : World) :
    Calls Tryd.prog 60 #[.string (str l), .int .i64 4] w fun e w' => e = endU (nan32V l) ∧ Below w.heap.size w w' := by
  obtain ⟨sl, HSL, _, hsz, _⟩ := str_facts l
  by_cases c1 : l.length = 8
  rotate_left
  · have b1 : ((l.length : Int) == 8) = false := by simp; omega
    rw [show nan32V l = none from by unfold nan32V; rw [if_neg c1], HSL.out]
    clear c1
    go_enter Tryd.func60, Tryd.ntmps60
    go_wp2_with fail
    refine (must_false _).mono ?_
    rintro e w ⟨rfl, rfl⟩
    go_wp2_with fail
    exact ⟨rfl, rfl, Below.refl _ _⟩
  have b1 : ((l.length : Int) == 8) = true := by simp; omega
  have hh := fun w => hexRd_any false l w (by omega)
  have HV : Hid (nan32V l = (hexF false 0 l).bind fun n => if 2139095040 < n % 2147483648 then some n else none) := by show _ = _; unfold nan32V; rw [if_pos c1]
  have HN : Hid (∀ n, hexF false 0 l = some n → n < 4294967296) := fun n hn => by have := hexF_lt false l 0 n hn; rw [c1] at this; exact this
  rw [HV.out]
  rw [HSL.out] at hh ⊢
  clear HV c1
  generalize hexF false 0 l = v at *
  cases v with
  | none =>
    have HH : Hid (∀ w : World, Calls Tryd.prog 59 #[.string sl, .bool false] w fun e w' => e = .panicked bad ∧ w' = w) := hh
    show Calls _ _ _ _ fun e w' => e = .panicked bad ∧ Below w.heap.size w w'
    clear hh HN
    go_enter Tryd.func60, Tryd.ntmps60
    go_wp2_with fail
    refine (must_true _).mono ?_
    rintro e w ⟨rfl, rfl⟩
    go_wp2_with fail
    refine (HH.out _).mono ?_
    rintro e w ⟨rfl, rfl⟩
    go_wp2_with fail
    exact ⟨rfl, rfl, Below.refl _ _⟩
  | some n =>
    have HH : Hid (∀ w : World, Calls Tryd.prog 59 #[.string sl, .bool false] w fun e w' => e = .returned (.int .u64 (n : Int)) ∧ w' = w) := hh
    have hn := HN.out n rfl
    have an := andNot31 n hn
    show Calls _ _ _ _ fun e w' => e = endU (if 2139095040 < n % 2147483648 then some n else none) ∧ Below w.heap.size w w'
    clear hh HN
    generalize n % 2147483648 = r at *
    by_cases c2 : 2139095040 < r
    · have g2 : (2139095040 : Int) < (r : Int) := by omega
      rw [if_pos c2]
      clear c2
      go_enter Tryd.func60, Tryd.ntmps60
      go_wp2_with fail
      refine (must_true _).mono ?_
      rintro e w ⟨rfl, rfl⟩
      go_wp2_with fail
      refine (HH.out _).mono ?_
      rintro e w ⟨rfl, rfl⟩
      go_wp2_with fail
      refine (layoutOf32 _).mono ?_
      rintro e w1 ⟨rfl, HW1⟩
      have hb1 : Below w.heap.size w w1 := by rw [← HW1]; exact Below.al (Below.refl _ _) _
      clear HW1
      go_wp2_with fail
      refine (infinity32 _).mono ?_
      rintro e w2 ⟨rfl, HW2⟩
      have hb2 : Below w.heap.size w w2 := by rw [← HW2]; exact Below.al hb1 _
      clear HW2
      go_wp2_with fail
      refine (must_true _).mono ?_
      rintro e w2 ⟨rfl, rfl⟩
      go_wp2_with fail
      go_ret
      exact ⟨rfl, hb2⟩
    · have g2 : ¬ (2139095040 : Int) < (r : Int) := by omega
      rw [if_neg c2]
      clear c2
      go_enter Tryd.func60, Tryd.ntmps60
      go_wp2_with fail
      refine (must_true _).mono ?_
      rintro e w ⟨rfl, rfl⟩
      go_wp2_with fail
      refine (HH.out _).mono ?_
      rintro e w ⟨rfl, rfl⟩
      go_wp2_with fail
      refine (layoutOf32 _).mono ?_
      rintro e w1 ⟨rfl, HW1⟩
      have hb1 : Below w.heap.size w w1 := by rw [← HW1]; exact Below.al (Below.refl _ _) _
      clear HW1
      go_wp2_with fail
      refine (infinity32 _).mono ?_
      rintro e w2 ⟨rfl, HW2⟩
      have hb2 : Below w.heap.size w w2 := by rw [← HW2]; exact Below.al hb1 _
      clear HW2
      go_wp2_with fail
      first
        | refine (must_false _).mono ?_
        | (rw [show decide ((2139095040 : Int) < (r : Int)) = false from by simp; omega]; refine (must_false _).mono ?_)
        | (rw [show decide (2139095040 < r) = false from by simp; omega]; refine (must_false _).mono ?_)
      rintro e w2 ⟨rfl, rfl⟩
      go_wp2_with fail
      exact ⟨rfl, rfl, hb2⟩

set_option maxHeartbeats 4000000 in
set_option maxRecDepth 100000 in
theorem floatRd32_any (l : List UInt8) (w : World) (hl : l.length ≤ 1000000) (hT : Tab64 w) :
    Calls Tryd.prog 36 #[.string (str l), .int .i64 4] w fun e w' => e = endU (flt32V l) ∧ Below w.heap.size w w' := by
  have hcp := fun w => Tryd.strings_CutPrefix (str l) ⟨#[110, 97, 110, 58]⟩ w
  rw [show (str l).data.toList = l from rfl, show (⟨#[110, 97, 110, 58]⟩ : ByteArray).data.toList = [110, 97, 110, 58] from rfl] at hcp
  obtain ⟨sl, HSL⟩ : ∃ s, Hid (str l = s) := ⟨_, rfl⟩
  by_cases a0 : Lib.hasPrefix l [110, 97, 110, 58] = true
  · rw [a0] at hcp
    rw [show flt32V l = nan32V (Lib.trimPrefix l [110, 97, 110, 58]) from by unfold flt32V; rw [if_pos a0]]
    have hn := fun w => nanRd32_any (Lib.trimPrefix l [110, 97, 110, 58]) w
    clear a0
    generalize Lib.trimPrefix l [110, 97, 110, 58] = r at *
    have HC : Hid (∀ w : World, Calls Tryd.prog 57 #[.string (str l), .string ⟨#[110, 97, 110, 58]⟩] w fun e w' => e = .returned (.tuple #[.string (str r), .bool true]) ∧ w' = w) := hcp
    rw [HSL.out] at HC ⊢
    generalize str r = sr at *
    generalize nan32V r = v at *
    clear hcp
    cases v with
    | none =>
      have HN : Hid (∀ w : World, Calls Tryd.prog 60 #[.string sr, .int .i64 4] w fun e w' => e = .panicked bad ∧ Below w.heap.size w w') := hn
      clear hn
      go_enter Tryd.func36, Tryd.ntmps36
      go_wp2_with fail
      refine (HC.out _).mono ?_
      rintro e w ⟨rfl, rfl⟩
      go_wp2_with fail
      refine (HN.out _).mono ?_
      rintro e w1 ⟨rfl, hb⟩
      go_wp2_with fail
      exact ⟨rfl, rfl, hb⟩
    | some n =>
      have HN : Hid (∀ w : World, Calls Tryd.prog 60 #[.string sr, .int .i64 4] w fun e w' => e = .returned (.int .u64 (n : Int)) ∧ Below w.heap.size w w') := hn
      clear hn
      go_enter Tryd.func36, Tryd.ntmps36
      go_wp2_with fail
      refine (HC.out _).mono ?_
      rintro e w ⟨rfl, rfl⟩
      go_wp2_with fail
      refine (HN.out _).mono ?_
      rintro e w1 ⟨rfl, hb⟩
      go_wp2_with fail
      go_ret
      exact ⟨rfl, hb⟩
  have a0' : Lib.hasPrefix l [110, 97, 110, 58] = false := by simpa using a0
  rw [a0'] at hcp
  obtain ⟨st, HC⟩ : ∃ st, Hid (∀ w : World, Calls Tryd.prog 57 #[.string (str l), .string ⟨#[110, 97, 110, 58]⟩] w fun e w' => e = .returned (.tuple #[.string st, .bool false]) ∧ w' = w) := ⟨_, hcp⟩
  have hcm := fun w => Tryd.strings_CutPrefix (str l) ⟨#[45]⟩ w
  have tr := trim_one l 45
  rw [show (str l).data.toList = l from rfl, show (⟨#[45]⟩ : ByteArray).data.toList = [45] from rfl, tr.1] at hcm
  have old := hT.old
  by_cases a1 : l.head? = some 45
  · rw [tr.2 a1, show (l.head? == some 45) = true from by simp [a1]] at hcm
    have HM : Hid (∀ w : World, Calls Tryd.prog 57 #[.string (str l), .string ⟨#[45]⟩] w fun e w' => e = .returned (.tuple #[.string (str l.tail), .bool true]) ∧ w' = w) := hcm
    rw [show flt32V l = (szV 23 127 2139095040 l.tail).map fun n => n + 2147483648 from by unfold flt32V; rw [if_neg a0, if_pos a1]]
    have hs := fun w hT => sizeRd32_any l.tail w (by rw [List.length_tail]; omega) hT
    have LE := fun n h => szV_le 23 127 l.tail n h
    rw [HSL.out] at HC HM ⊢
    clear hcp hcm a0 a0' a1 tr
    generalize str l.tail = sr at *
    replace LE : ∀ n, szV 23 127 2139095040 l.tail = some n → n ≤ 2139095040 := LE
    generalize szV 23 127 2139095040 l.tail = v at *
    cases v with
    | none =>
      have HS : Hid (∀ w : World, Tab64 w → Calls Tryd.prog 61 #[.string sr, .agg #[.int .i64 23, .int .i64 127]] w fun e w' => e = .panicked bad ∧ Below w.heap.size w w') := hs
      clear hs LE
      show Calls _ _ _ _ fun e w' => e = .panicked bad ∧ Below w.heap.size w w'
      go_enter Tryd.func36, Tryd.ntmps36
      go_wp2_with fail
      refine (HC.out _).mono ?_
      rintro e w ⟨rfl, rfl⟩
      go_wp2_with fail
      refine (HM.out _).mono ?_
      rintro e w ⟨rfl, rfl⟩
      go_wp2_with fail
      refine (layoutOf32 _).mono ?_
      rintro e w1 ⟨rfl, HW1⟩
      have hb1 : Below w.heap.size w w1 := by rw [← HW1]; exact Below.al (Below.refl _ _) _
      clear HW1
      go_wp2_with fail
      refine (HS.out _ (hT.below hb1 old)).mono ?_
      rintro e w2 ⟨rfl, hb2⟩
      go_wp2_with fail
      exact ⟨rfl, rfl, Below.andThen hb1 hb2⟩
    | some n =>
      have HS : Hid (∀ w : World, Tab64 w → Calls Tryd.prog 61 #[.string sr, .agg #[.int .i64 23, .int .i64 127]] w fun e w' => e = .returned (.int .u64 (n : Int)) ∧ Below w.heap.size w w') := hs
      have hn := LE n rfl
      have orr : bits .or .u64 (n : Int) 2147483648 = ((n + 2147483648 : Nat) : Int) := by
        have hk := bits_join .u64 64 (by decide) wraps_u64 31 (2147483648 : Int) (n : Int) (by omega) (by decide) (by decide) (by omega) (by show (n : Int) < 2147483648; omega) (by have : (2:Int)^64 = 18446744073709551616 := rfl; rw [this]; omega)
        have h1 := u64_or_nat n 2147483648 (by omega) (by decide)
        have h2 := u64_or_nat 2147483648 n (by decide) (by omega)
        rw [Nat.or_comm, ← h2] at h1
        refine h1.trans (hk.trans ?_)
        omega
      clear hs LE
      show Calls _ _ _ _ fun e w' => e = .returned (.int .u64 ((n + 2147483648 : Nat) : Int)) ∧ Below w.heap.size w w'
      generalize n + 2147483648 = q at *
      go_enter Tryd.func36, Tryd.ntmps36
      go_wp2_with fail
      refine (HC.out _).mono ?_
      rintro e w ⟨rfl, rfl⟩
      go_wp2_with fail
      refine (HM.out _).mono ?_
      rintro e w ⟨rfl, rfl⟩
      go_wp2_with fail
      refine (layoutOf32 _).mono ?_
      rintro e w1 ⟨rfl, HW1⟩
      have hb1 : Below w.heap.size w w1 := by rw [← HW1]; exact Below.al (Below.refl _ _) _
      clear HW1
      go_wp2_with fail
      refine (HS.out _ (hT.below hb1 old)).mono ?_
      rintro e w2 ⟨rfl, hb2⟩
      go_wp2_with fail
      go_ret
      exact ⟨rfl, Below.andThen hb1 hb2⟩
  · rw [show (l.head? == some 45) = false from by simpa using a1] at hcm
    have htr : Lib.trimPrefix l [45] = l := by unfold Lib.trimPrefix; rw [tr.1, if_neg (by simpa using a1)]
    rw [htr] at hcm
    have HM : Hid (∀ w : World, Calls Tryd.prog 57 #[.string (str l), .string ⟨#[45]⟩] w fun e w' => e = .returned (.tuple #[.string (str l), .bool false]) ∧ w' = w) := hcm
    rw [show flt32V l = szV 23 127 2139095040 l from by unfold flt32V; rw [if_neg a0, if_neg a1]]
    have hs := fun w hT => sizeRd32_any l w hl hT
    rw [HSL.out] at HC HM hs ⊢
    clear hcp hcm a0 a0' a1 tr htr
    generalize szV 23 127 2139095040 l = v at *
    cases v with
    | none =>
      have HS : Hid (∀ w : World, Tab64 w → Calls Tryd.prog 61 #[.string sl, .agg #[.int .i64 23, .int .i64 127]] w fun e w' => e = .panicked bad ∧ Below w.heap.size w w') := hs
      clear hs
      show Calls _ _ _ _ fun e w' => e = .panicked bad ∧ Below w.heap.size w w'
      go_enter Tryd.func36, Tryd.ntmps36
      go_wp2_with fail
      refine (HC.out _).mono ?_
      rintro e w ⟨rfl, rfl⟩
      go_wp2_with fail
      refine (HM.out _).mono ?_
      rintro e w ⟨rfl, rfl⟩
      go_wp2_with fail
      refine (layoutOf32 _).mono ?_
      rintro e w1 ⟨rfl, HW1⟩
      have hb1 : Below w.heap.size w w1 := by rw [← HW1]; exact Below.al (Below.refl _ _) _
      clear HW1
      go_wp2_with fail
      refine (HS.out _ (hT.below hb1 old)).mono ?_
      rintro e w2 ⟨rfl, hb2⟩
      go_wp2_with fail
      exact ⟨rfl, rfl, Below.andThen hb1 hb2⟩
    | some n =>
      have HS : Hid (∀ w : World, Tab64 w → Calls Tryd.prog 61 #[.string sl, .agg #[.int .i64 23, .int .i64 127]] w fun e w' => e = .returned (.int .u64 (n : Int)) ∧ Below w.heap.size w w') := hs
      clear hs
      show Calls _ _ _ _ fun e w' => e = .returned (.int .u64 (n : Int)) ∧ Below w.heap.size w w'
      go_enter Tryd.func36, Tryd.ntmps36
      go_wp2_with fail
      refine (HC.out _).mono ?_
      rintro e w ⟨rfl, rfl⟩
      go_wp2_with fail
      refine (HM.out _).mono ?_
      rintro e w ⟨rfl, rfl⟩
      go_wp2_with fail
      refine (layoutOf32 _).mono ?_
      rintro e w1 ⟨rfl, HW1⟩
      have hb1 : Below w.heap.size w w1 := by rw [← HW1]; exact Below.al (Below.refl _ _) _
      clear HW1
      go_wp2_with fail
      refine (HS.out _ (hT.below hb1 old)).mono ?_
      rintro e w2 ⟨rfl, hb2⟩
      go_wp2_with fail
      go_ret
      exact ⟨rfl, Below.andThen hb1 hb2⟩
#print axioms floatRd32_any
end Go.Proofs.YtkfmmpolcjbnbaaDoor
