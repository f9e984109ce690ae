/-
  The walk of widened: a float of 4 bytes as one of 8.
-/
import Derived.Test.YtajllkkbgpijiaaGreatDoorTog
import Derived.Test.YtajllkkbgpijiaaGreatDoorFlt
namespace Go.Proofs.YtajllkkbgpijiaaGreatDoor.Ty
open Pl Go.RowKit

theorem Below.andThen {a W w1 : World} (h : Below a.heap.size a W) (h1 : Below W.heap.size W w1) : Below a.heap.size a w1 := h.trans (h1.mono h.size)

theorem ctz_split (m : Nat) (h0 : m ≠ 0) (h : m < 18446744073709551616) : ∃ M z L : Nat, Tog64 m 0 M z L ∧ z < 64 ∧ m = M * 2 ^ z ∧ M % 2 = 1 ∧ 1 ≤ L ∧ L ≤ 64 ∧ 2 ^ (L - 1) ≤ M ∧ M < 2 ^ L ∧ M < 18446744073709551616 := by
  obtain ⟨_, hz⟩ := Lib.lowest_bit 64 m h0 h
  obtain ⟨q, hq, _⟩ := Lib.ctzFrom_spec 64 m (by omega) h
  have hc : Lib.ctz 64 m = Lib.ctzFrom 64 m := by unfold Lib.ctz; rw [if_neg h0]
  rw [← hc] at hq
  have hp : 0 < 2 ^ Lib.ctz 64 m := Nat.two_pow_pos _
  have hM : m / 2 ^ Lib.ctz 64 m = 2 * q + 1 := by
    conv => lhs; arg 1; rw [hq]
    rw [Nat.mul_comm]; exact Nat.mul_div_cancel _ hp
  have hle : 2 * q + 1 ≤ m := by rw [← hM]; exact Nat.div_le_self _ _
  obtain ⟨s1, s2⟩ := bitLen_spec 64 (2 * q + 1) (by show _ < 18446744073709551616; omega) (by omega)
  obtain ⟨s3, s4⟩ := s2 (by omega)
  exact ⟨2 * q + 1, Lib.ctz 64 m, Lib.bitLen (2 * q + 1), ⟨h0, h, by omega, by omega, rfl, hM, rfl⟩, hz, by rw [Nat.mul_comm]; exact hq, by omega, s3, Lib.bitLen_le _ 64 (by omega) (by show _ < 18446744073709551616; omega), s4, s1, by omega⟩

theorem len_bound (M z L f : Nat) (hL : 1 ≤ L) (h1 : 2 ^ (L - 1) ≤ M) (h : M * 2 ^ z < 2 ^ f) : L + z ≤ f := by
  have h2 : 2 ^ (L - 1) * 2 ^ z ≤ M * 2 ^ z := Nat.mul_le_mul_right _ h1
  rw [← Nat.pow_add] at h2
  have h3 : 2 ^ (L - 1 + z) < 2 ^ f := by omega
  have := (Nat.pow_lt_pow_iff_right (by omega)).1 h3
  omega

/-- together of a small m in the wide layout: the rung that is worth just that. -/
theorem together64_small (m k0 : Nat) (e : Int) (w : World) (hT : Tab64 w) (hm : m < 16777216) (he : e = (k0 : Int) - 1074) (hk0 : 925 ≤ k0) (hk1 : k0 ≤ 1200) :
    Calls Tryz.prog 94 #[.agg #[.int .i64 52, .int .i64 1023], .int .u64 m, .int .i64 e] w fun r w' => ∃ R : Nat, r = .returned (.tuple #[.int .u64 R, .bool true]) ∧ R < 9218868437227405312 ∧ fval (2 ^ 52) R = m * 2 ^ k0 ∧ Below w.heap.size w w' := by
  by_cases h0 : m = 0
  · subst h0
    refine (together0_64 e w).mono ?_
    rintro r w' ⟨rfl, hb⟩
    exact ⟨0, rfl, by decide, by rw [fval_zero _ (by decide)]; simp, hb⟩
  · obtain ⟨M, z, L, hg, hz, hmz, _, hL1, hL64, hM1, hM2, hM64⟩ := ctz_split m h0 (by omega)
    have hl := len_bound M z L 24 hL1 hM1 (by rw [← hmz]; exact hm)
    obtain ⟨t1, t2, t3⟩ := tog_big 52 (k0 + z) L M hM1 hM2 hL1 (by omega) (by omega)
    have hg' : Tog64 m e M z L := ⟨hg.m0, hg.m1, by omega, by omega, hg.hz, hg.hM, hg.hL⟩
    have t1' : 4503599627370496 ≤ M * 2 ^ (53 - L) := t1
    have t2' : M * 2 ^ (53 - L) < 9007199254740992 := t2
    refine (togetherHigh64 m e M z L (k0 + z) w hg' hT (by omega) hz (by omega) (by omega) (by omega) hM64 ⟨t1', t2'⟩).mono ?_
    rintro r w' ⟨rfl, hb⟩
    refine ⟨_, rfl, by omega, ?_, hb⟩
    have : (4503599627370496 : Nat) = 2 ^ 52 := rfl
    rw [this, t3, Nat.pow_add, ← Nat.mul_assoc, Nat.mul_right_comm, ← hmz]

/-- The same, of numbers as the walk has them. -/
theorem together64_int (m e : Int) (w : World) (hT : Tab64 w) (h0 : 0 ≤ m) (hm : m < 16777216) (he0 : -149 ≤ e) (he1 : e ≤ 126) :
    Calls Tryz.prog 94 #[.agg #[.int .i64 52, .int .i64 1023], .int .u64 m, .int .i64 e] w fun r w' => ∃ R : Nat, r = .returned (.tuple #[.int .u64 R, .bool true]) ∧ R < 9218868437227405312 ∧ fval (2 ^ 52) R = m.toNat * 2 ^ (e + 1074).toNat ∧ Below w.heap.size w w' := by
  obtain ⟨n, rfl⟩ := Int.eq_ofNat_of_zero_le h0
  exact together64_small n (e + 1074).toNat e w hT (by omega) (by omega) (by omega) (by omega)

theorem wide_val (r : Int) (h0 : 0 ≤ r) (h1 : 8388608 ≤ r) : (8388608 + r % 8388608).toNat * 2 ^ (-149 + r / 8388608 - 1 + 1074).toNat = fval (2 ^ 23) r.toNat * 2 ^ 925 := by
  obtain ⟨n, rfl⟩ := Int.eq_ofNat_of_zero_le h0
  have h := apart_val 23 n (by show 8388608 ≤ _; omega)
  have e1 : (8388608 + (n : Int) % 8388608).toNat = 2 ^ 23 + n % 2 ^ 23 := by show _ = 8388608 + n % 8388608; omega
  have e2 : (-149 + (n : Int) / 8388608 - 1 + 1074).toNat = (n / 2 ^ 23 - 1) + 925 := by show _ = (n / 8388608 - 1) + 925; omega
  rw [Int.toNat_natCast, ← h, e1, e2, Nat.pow_add, Nat.mul_assoc]

theorem or_sign (s R : Int) (h0 : 0 ≤ s) (h1 : s ≤ 1) (r0 : 0 ≤ R) (r1 : R < 9223372036854775808) : bits .or .u64 (s * 9223372036854775808) R = s * 9223372036854775808 + R := by
  have hp : (2 : Int) ^ 64 = 18446744073709551616 := rfl
  exact bits_join .u64 64 (by decide) wraps_u64 63 _ _ (by omega) (by show _ % 9223372036854775808 = 0; omega) (by rw [hp]; omega) r0 r1 (by rw [hp]; omega)

theorem and31 (n : Int) (h0 : 0 ≤ n) (h1 : n < 4294967296) : bits .and .u64 n 2147483647 = n % 2147483648 := by
  obtain ⟨m, rfl⟩ := Int.eq_ofNat_of_zero_le h0
  have h := u64_and_nat m 2147483647 (by omega) (by decide)
  rw [show ((2147483647 : Nat) : Int) = (2147483647 : Int) from rfl] at h
  rw [h, show m &&& 2147483647 = m % 2147483648 from Nat.and_two_pow_sub_one_eq_mod m 31]; omega

set_option maxHeartbeats 4000000 in
set_option maxRecDepth 100000 in
theorem widened_inf (n : Int) (w : World) (h0 : 0 ≤ n) (h1 : n < 4294967296) (hr : n % 2147483648 = 2139095040) :
    Calls Tryz.prog 87 #[.int .u64 n] w fun e w' => e = .returned (.int .u64 (n / 2147483648 * 9223372036854775808 + 9218868437227405312)) ∧ Below w.heap.size w w' := by
  have hand : bits .and .u64 n 2147483647 = 2139095040 := by rw [and31 n h0 h1, hr]
  clear hr
  go_enter Tryz.func87, Tryz.ntmps87
  go_wp2_with fail
  refine (layoutOf32 _).mono ?_
  rintro e w' ⟨rfl, rfl⟩
  go_wp2_with fail
  refine (layoutOf64 _).mono ?_
  rintro e w' ⟨rfl, rfl⟩
  go_wp2_with fail
  refine (infinity32 _).mono ?_
  rintro e w' ⟨rfl, rfl⟩
  go_wp2_with fail
  refine (infinity64 _).mono ?_
  rintro e w' ⟨rfl, rfl⟩
  go_wp2_with fail
  go_ret
  refine ⟨ret_int (or_sign _ _ (by omega) (by omega) (by omega) (by omega)), ?_⟩
  repeat (first | exact Below.refl _ _ | refine Below.al ?_ _ | refine Below.drew ?_ | refine below_drewN ?_ _)

set_option maxHeartbeats 4000000 in
set_option maxRecDepth 100000 in
theorem widened_nan (n : Int) (w : World) (h0 : 0 ≤ n) (h1 : n < 4294967296) (hr : 2139095040 < n % 2147483648) :
    Calls Tryz.prog 87 #[.int .u64 n] w fun e w' => e = .returned (.int .u64 (n / 2147483648 * 9223372036854775808 + 9218868437227405313)) ∧ Below w.heap.size w w' := by
  have hand := and31 n h0 h1
  have hb : (n % 2147483648 == 2139095040) = false := by simp; omega
  go_enter Tryz.func87, Tryz.ntmps87
  go_wp2_with fail
  refine (layoutOf32 _).mono ?_
  rintro e w' ⟨rfl, rfl⟩
  go_wp2_with fail
  refine (layoutOf64 _).mono ?_
  rintro e w' ⟨rfl, rfl⟩
  go_wp2_with fail
  refine (infinity32 _).mono ?_
  rintro e w' ⟨rfl, rfl⟩
  go_wp2_with fail
  refine (infinity32 _).mono ?_
  rintro e w' ⟨rfl, rfl⟩
  go_wp2_with fail
  refine (infinity64 _).mono ?_
  rintro e w' ⟨rfl, rfl⟩
  go_wp2_with fail
  go_ret
  refine ⟨ret_int ?_, ?_⟩
  · rw [or_sign _ 9218868437227405312 (by omega) (by omega) (by omega) (by omega)]
    have hp : (2 : Int) ^ 64 = 18446744073709551616 := rfl
    rw [bits_join .u64 64 (by decide) wraps_u64 1 _ _ (by omega) (by show _ % 2 = 0; omega) (by rw [hp]; omega) (by omega) (by decide) (by decide)]
    omega
  · repeat (first | exact Below.refl _ _ | refine Below.al ?_ _ | refine Below.drew ?_ | refine below_drewN ?_ _)

set_option maxHeartbeats 4000000 in
set_option maxRecDepth 100000 in
theorem widened_num (n r : Int) (w : World) (hT : Tab64 w) (h0 : 0 ≤ n) (h1 : n < 4294967296) (hr : n % 2147483648 = r) (hlt : r < 2139095040) :
    Calls Tryz.prog 87 #[.int .u64 n] w fun e w' => ∃ R : Nat, e = .returned (.int .u64 (n / 2147483648 * 9223372036854775808 + R)) ∧ R < 9218868437227405312 ∧ fval (2 ^ 52) R = fval (2 ^ 23) r.toNat * 2 ^ 925 ∧ Below w.heap.size w w' := by
  have hand : bits .and .u64 n 2147483647 = r := by rw [and31 n h0 h1, hr]
  have hb : (r == 2139095040) = false := by simp; omega
  have hb' : decide (2139095040 < r) = false := by simp; omega
  have hr0 : 0 ≤ r := by omega
  have hs0 : 0 ≤ n / 2147483648 := by omega
  have hs1 : n / 2147483648 ≤ 1 := by omega
  have old := hT.old
  clear hr
  by_cases hlow : r < 8388608
  · have HF : Hid (fval (2 ^ 23) r.toNat = r.toNat) := (apart_val0 23 r.toNat (by show _ < 8388608; omega)).symm
    go_enter Tryz.func87, Tryz.ntmps87
    go_wp2_with fail
    refine (layoutOf32 _).mono ?_
    rintro e w' ⟨rfl, rfl⟩
    go_wp2_with fail
    refine (layoutOf64 _).mono ?_
    rintro e w' ⟨rfl, rfl⟩
    go_wp2_with fail
    refine (infinity32 _).mono ?_
    rintro e w' ⟨rfl, rfl⟩
    go_wp2_with fail
    refine (infinity32 _).mono ?_
    rintro e w' ⟨rfl, rfl⟩
    go_wp2_with fail
    go_region_held3 (fun w' => w'.cell? ⟨w.heap.size + 1 + 1, 0, none⟩ = some (.int .i64 23) ∧ w'.cell? ⟨w.heap.size + 1 + 1, 1, none⟩ = some (.int .i64 127) ∧ w'.cell? ⟨w.heap.size + 1 + 1 + 1, 0, none⟩ = some (.int .i64 52) ∧ w'.cell? ⟨w.heap.size + 1 + 1 + 1, 1, none⟩ = some (.int .i64 1023))
      (first | (simp [go_sem, World.cell?_alloc_past]; done) | (refine ⟨?_, ?_, ?_, ?_⟩ <;> (rw [hb1.cell (by simp)]; simp [go_sem, World.cell?_alloc_past])) | (refine ⟨?_, ?_, ?_, ?_⟩ <;> (rw [hb2.cell (Nat.lt_of_lt_of_le (by simp) hb1.size), hb1.cell (by simp)]; simp [go_sem, World.cell?_alloc_past])))
      (first | ((go_at_call 95; refine (apartLow32 r _ hr0 hlow).mono ?_; rintro e w1 ⟨rfl, hb1⟩)) | ((go_at_call 94; refine (together64_int r (-149) _ (hT.below (Below.andThen (Below.drew (Below.al (Below.al (Below.al (Below.al (Below.al (Below.al (Below.refl _ _) _) _) _) _) _) _)) hb1) old) hr0 (by omega) (by omega) (by omega)).mono ?_; rintro e w2 ⟨R, rfl, hR, hV, hb2⟩)))
    all_goals go_wp2_with fail
    all_goals go_ret
    all_goals refine ⟨R, ret_int (or_sign _ _ hs0 hs1 (by omega) (by omega)), hR, by rw [hV, HF.out, show (-149 + 1074 : Int).toNat = 925 from rfl], ?_⟩
    all_goals exact Below.andThen (Below.andThen (Below.drew (Below.al (Below.al (Below.al (Below.al (Below.al (Below.al (Below.refl _ _) _) _) _) _) _) _)) hb1) hb2
  · have HF : Hid ((8388608 + r % 8388608).toNat * 2 ^ (-149 + r / 8388608 - 1 + 1074).toNat = fval (2 ^ 23) r.toNat * 2 ^ 925) := wide_val r hr0 (by omega)
    go_enter Tryz.func87, Tryz.ntmps87
    go_wp2_with fail
    refine (layoutOf32 _).mono ?_
    rintro e w' ⟨rfl, rfl⟩
    go_wp2_with fail
    refine (layoutOf64 _).mono ?_
    rintro e w' ⟨rfl, rfl⟩
    go_wp2_with fail
    refine (infinity32 _).mono ?_
    rintro e w' ⟨rfl, rfl⟩
    go_wp2_with fail
    refine (infinity32 _).mono ?_
    rintro e w' ⟨rfl, rfl⟩
    go_wp2_with fail
    go_region_held3 (fun w' => w'.cell? ⟨w.heap.size + 1 + 1, 0, none⟩ = some (.int .i64 23) ∧ w'.cell? ⟨w.heap.size + 1 + 1, 1, none⟩ = some (.int .i64 127) ∧ w'.cell? ⟨w.heap.size + 1 + 1 + 1, 0, none⟩ = some (.int .i64 52) ∧ w'.cell? ⟨w.heap.size + 1 + 1 + 1, 1, none⟩ = some (.int .i64 1023))
      (first | (simp [go_sem, World.cell?_alloc_past]; done) | (refine ⟨?_, ?_, ?_, ?_⟩ <;> (rw [hb1.cell (by simp)]; simp [go_sem, World.cell?_alloc_past])) | (refine ⟨?_, ?_, ?_, ?_⟩ <;> (rw [hb2.cell (Nat.lt_of_lt_of_le (by simp) hb1.size), hb1.cell (by simp)]; simp [go_sem, World.cell?_alloc_past])))
      (first | ((go_at_call 95; refine (apartHigh32 r _ (by omega) hlt).mono ?_; rintro e w1 ⟨rfl, hb1⟩)) | ((go_at_call 94; refine (together64_int (8388608 + r % 8388608) (-149 + r / 8388608 - 1) _ (hT.below (Below.andThen (Below.drew (Below.al (Below.al (Below.al (Below.al (Below.al (Below.al (Below.refl _ _) _) _) _) _) _) _)) hb1) old) (by omega) (by omega) (by omega) (by omega)).mono ?_; rintro e w2 ⟨R, rfl, hR, hV, hb2⟩)))
    all_goals go_wp2_with fail
    all_goals go_ret
    all_goals refine ⟨R, ret_int (or_sign _ _ hs0 hs1 (by omega) (by omega)), hR, by rw [hV, HF.out], ?_⟩
    all_goals exact Below.andThen (Below.andThen (Below.drew (Below.al (Below.al (Below.al (Below.al (Below.al (Below.al (Below.refl _ _) _) _) _) _) _) _)) hb1) hb2
#print axioms widened_num
end Go.Proofs.YtajllkkbgpijiaaGreatDoor.Ty
