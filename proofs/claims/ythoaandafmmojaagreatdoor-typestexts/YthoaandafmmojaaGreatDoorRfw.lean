/-
  The walk of the document's float: the text of a float of 4 or 8 bytes.
-/
import Derived.Test.YthoaandafmmojaaGreatDoorRfl
import Derived.Test.YthoaandafmmojaaGreatDoorRqu
namespace Go.Proofs.YthoaandafmmojaaGreatDoor
open Pl Go.RowKit

theorem form32 (w : World) : Calls Tryz.prog 40 #[.int .u8 8] w fun e w' => e = .returned (.tuple #[.int .i64 23, .int .i64 8, .int .i64 (-149)]) ∧ w' = w := by
  go_enter Tryz.func40, Tryz.ntmps40
  go_wp2
  go_ret3
  exact ⟨rfl, rfl⟩
theorem form64 (w : World) : Calls Tryz.prog 40 #[.int .u8 17] w fun e w' => e = .returned (.tuple #[.int .i64 52, .int .i64 11, .int .i64 (-1074)]) ∧ w' = w := by
  go_enter Tryz.func40, Tryz.ntmps40
  go_wp2
  go_ret3
  exact ⟨rfl, rfl⟩

theorem and_low (k : Nat) (n c : Int) (h0 : 0 ≤ n) (h1 : n < 18446744073709551616) (hk : k ≤ 63) (hc : c = 2 ^ k - 1) : bits .and .u64 n c = n % 2 ^ k := by
  obtain ⟨m, rfl⟩ := Int.eq_ofNat_of_zero_le h0
  have hp : (2 : Nat) ^ k ≤ 9223372036854775808 := Nat.pow_le_pow_right (by omega) hk
  have hp0 := Nat.two_pow_pos k
  have e : c = ((2 ^ k - 1 : Nat) : Int) := by
    rw [hc, Int.natCast_sub hp0, Int.natCast_pow]; rfl
  rw [e, u64_and_nat m (2 ^ k - 1) (by omega) (by omega), Nat.and_two_pow_sub_one_eq_mod, Int.natCast_emod, Int.natCast_pow]
  rfl

theorem half_bound (F f k : Nat) (h0 : F ≠ 0) (h : F < 18446744073709551616) (hv : F = f * 2 ^ k) : k < 64 ∧ f ≠ 0 ∧ f ≤ F := by
  have hf : f ≠ 0 := fun h => by rw [h, Nat.zero_mul] at hv; exact h0 hv
  have hp := Nat.two_pow_pos k
  have h1 : 2 ^ k ≤ F := by rw [hv]; exact Nat.le_mul_of_pos_left _ (by omega)
  have h2 : f ≤ F := by rw [hv]; exact Nat.le_mul_of_pos_right _ hp
  refine ⟨?_, hf, h2⟩
  rcases Nat.lt_or_ge k 64 with h | h
  · exact h
  · have : 2 ^ 64 ≤ 2 ^ k := Nat.pow_le_pow_right (by decide) h
    have : (2 : Nat) ^ 64 = 18446744073709551616 := rfl
    omega

theorem str5 (sg a c : List UInt8) (b : UInt8) : str sg ++ str a ++ ⟨#[b]⟩ ++ str c = str (sg ++ (a ++ b :: c)) := by
  show str sg ++ str a ++ str [b] ++ str c = _
  rw [str_append, str_append, str_append]
  simp

/-- What is told of a float of 8 bytes. -/
def rf64 (zs : List Int) : List UInt8 :=
  if 9218868437227405312 < (num zs).toNat % 9223372036854775808 then [110, 97, 110, 58] ++ byteL (hexL zs.reverse)
  else if (num zs).toNat / 9223372036854775808 = 1 then 45 :: sizeS ((num zs).toNat % 9223372036854775808) else sizeS ((num zs).toNat % 9223372036854775808)

set_option maxHeartbeats 16000000 in
set_option maxRecDepth 100000 in
theorem refFloat64 (a : Option Addr) (cap : Nat) (zs : List Int) (w : World) (hr : Row w a 8 zs) :
    Calls Tryz.prog 20 #[.int .u8 17, .slice a 8 cap] w fun e w' => e = .returned (.string (str (rf64 zs))) ∧ Below w.heap.size w w' := by
  have hb := num_bd zs hr.oct
  rw [hr.size] at hb
  have hn0 := hb.1
  have hn1 : num zs < 18446744073709551616 := hb.2
  clear hb
  have hh := hexL_hexR zs hr.oct
  rw [hr.size] at hh
  obtain ⟨N, HN⟩ : ∃ N : Nat, num zs = (N : Int) := Int.eq_ofNat_of_zero_le hn0
  have HNN : Hid (num zs = (N : Int)) := HN
  rw [HN] at hn0 hn1 hh
  have hNl : N < 18446744073709551616 := by omega
  have RF : rf64 zs = (if 9218868437227405312 < N % 9223372036854775808 then [110, 97, 110, 58] ++ byteL (hexR (N : Int) (2 * 8)) else if N / 9223372036854775808 = 1 then 45 :: sizeS (N % 9223372036854775808) else sizeS (N % 9223372036854775808)) := by
    unfold rf64; rw [HN, hh, Int.toNat_natCast]
  clear HN hh
  obtain ⟨F, HF⟩ : ∃ F : Int, Hid ((N : Int) % 4503599627370496 = F) := ⟨_, rfl⟩
  obtain ⟨E, HE⟩ : ∃ E : Int, Hid ((N : Int) / 4503599627370496 % 2048 = E) := ⟨_, rfl⟩
  have eF := HF.out
  have eE := HE.out
  have a1 : bits .and .u64 (N : Int) 4503599627370495 = F := by rw [and_low 52 _ _ (by omega) (by omega) (by decide) (by decide), ← HF.out]; rfl
  have a2 : bits .and .u64 ((N : Int) / 4503599627370496) 2047 = E := by rw [and_low 11 _ _ (by omega) (by omega) (by decide) (by decide), ← HE.out]; rfl
  have w2 : wrap64 E = E := by simp only [wrap64]; omega
  have hF1 : F < 4503599627370496 := by omega
  have hE1 : E < 2048 := by omega
  have hF0 : 0 ≤ F := by omega
  have hE0 : 0 ≤ E := by omega
  have RK : N / 9223372036854775808 = 1 ∨ N / 9223372036854775808 = 0 := by omega
  rcases RK with hk | hk
  · have sg : ((N : Int) / 9223372036854775808 == 1) = true := by simp; omega
    have z0 : (⟨#[45]⟩ : ByteArray).size = 1 := rfl
    by_cases cE : E = 2047
    · by_cases cF : F = 0
      · have RV : Hid (str (rf64 zs) = ⟨#[45]⟩ ++ ⟨#[105, 110, 102]⟩) := by
          show _ = _
          rw [RF, if_neg (show ¬ 9218868437227405312 < N % 9223372036854775808 by omega), if_pos hk, show N % 9223372036854775808 = 9218868437227405312 from by omega]
          rfl
        have b1 : (E == 2047) = true := by simp; omega
        have b2 : (F == 0) = true := by simp; omega
        have ad := add_run ⟨#[45]⟩ ⟨#[105, 110, 102]⟩ (by decide)
        clear RF eF eE cE cF hk
        go_enter Tryz.func20, Tryz.ntmps20
        go_wp2_with fail
        refine (refNumber_any _ _ _ zs _ hr (by decide)).mono ?_
        rw [HNN.out]
        rintro e w ⟨rfl, rfl⟩
        go_wp2_with fail
        refine (form64 _).mono ?_
        rintro e w ⟨rfl, rfl⟩
        go_wp2_with fail
        go_quiet (fail)
        go_wp2_with fail
        go_ret
        exact ⟨ret_str RV.out.symm, (below_drewN (Below.refl _ _) _)⟩
      · have RV : Hid (str (rf64 zs) = ⟨#[110, 97, 110, 58]⟩ ++ strOfNums (hexR (N : Int) 16)) := by
          show _ = _
          rw [RF, if_pos (show 9218868437227405312 < N % 9223372036854775808 by omega), ← str_append]
          rfl
        have b1 : (E == 2047) = true := by simp; omega
        have b2 : (F == 0) = false := by simp; omega
        obtain ⟨s1, HS⟩ : ∃ s, Hid (strOfNums (hexR (N : Int) 16) = s) := ⟨_, rfl⟩
        have zs1 : s1.size = 16 := by rw [← HS.out, strOfNums_size, hexR_len]
        rw [HS.out] at RV
        have ad := add_run ⟨#[110, 97, 110, 58]⟩ s1 (by have : (⟨#[110, 97, 110, 58]⟩ : ByteArray).size = 4 := rfl; omega)
        clear RF eF eE cE cF hk zs1
        go_enter Tryz.func20, Tryz.ntmps20
        go_wp2_with fail
        refine (refNumber_any _ _ _ zs _ hr (by decide)).mono ?_
        rw [HNN.out]
        rintro e w ⟨rfl, rfl⟩
        go_wp2_with fail
        refine (form64 _).mono ?_
        rintro e w ⟨rfl, rfl⟩
        go_wp2_with fail
        go_quiet (fail)
        go_wp2_with fail
        refine (refHex_any (N : Int) 16 _ hn0 (by omega) (by decide)).mono ?_
        rw [HS.out]
        rintro e w1 ⟨rfl, hb1⟩
        go_wp2_with fail
        go_ret
        exact ⟨ret_str RV.out.symm, Below.andThen (below_drewN (Below.refl _ _) _) hb1⟩
    have b1 : (E == 2047) = false := by simp; omega
    have hnan : ¬ 9218868437227405312 < N % 9223372036854775808 := by omega
    by_cases c0 : E = 0 ∧ F = 0
    · have RV : Hid (str (rf64 zs) = ⟨#[45]⟩ ++ ⟨#[48, 112, 48]⟩) := by
        show _ = _
        rw [RF, if_neg hnan, if_pos hk, show N % 9223372036854775808 = 0 from by omega]
        rfl
      have ad := add_run ⟨#[45]⟩ ⟨#[48, 112, 48]⟩ (by decide)
      obtain ⟨hE, hF⟩ := c0
      clear RF eF eE cE hk hnan HE HF w2 b1 hF1 hE1 hF0 hE0
      subst hE
      subst hF
      go_enter Tryz.func20, Tryz.ntmps20
      go_wp2_with fail
      refine (refNumber_any _ _ _ zs _ hr (by decide)).mono ?_
      rw [HNN.out]
      rintro e w ⟨rfl, rfl⟩
      go_wp2_with fail
      refine (form64 _).mono ?_
      rintro e w ⟨rfl, rfl⟩
      go_wp2_with fail
      go_quiet (fail)
      go_wp2_with fail
      go_ret
      exact ⟨ret_str RV.out.symm, (below_drewN (Below.refl _ _) _)⟩
    obtain ⟨M, HM⟩ : ∃ M : Nat, Hid ((if E = 0 then F else F + 4503599627370496) = (M : Int)) := ⟨(if E = 0 then F else F + 4503599627370496).toNat, by show _ = _; rw [Int.toNat_of_nonneg]; split <;> omega⟩
    obtain ⟨L, HL⟩ : ∃ L : Int, Hid ((if E = 0 then (-1074 : Int) else -1074 + E - 1) = L) := ⟨_, rfl⟩
    have eM := HM.out
    have eL := HL.out
    have hM0 : M ≠ 0 := by split at eM <;> omega
    have hM1 : M < 18446744073709551616 := by split at eM <;> omega
    have hL0 : -1074 ≤ L := by split at eL <;> omega
    have hL1 : L ≤ 3000 := by split at eL <;> omega
    have RV : Hid (rf64 zs = 45 :: oddS M L) := by
      show _ = _
      rw [RF, if_neg hnan, if_pos hk]
      unfold sizeS
      rw [if_neg (show ¬ N % 9223372036854775808 = 9218868437227405312 by omega), if_neg (show ¬ N % 9223372036854775808 = 0 by omega)]
      by_cases h0 : E = 0
      · rw [if_pos h0] at eM eL
        rw [if_pos (show N % 9223372036854775808 < 4503599627370496 by omega), show N % 9223372036854775808 = M from by omega, eL]
      · rw [if_neg h0] at eM eL
        rw [if_neg (show ¬ N % 9223372036854775808 < 4503599627370496 by omega), show 4503599627370496 + N % 9223372036854775808 % 4503599627370496 = M from by omega, show -1074 + ((N % 9223372036854775808 : Nat) : Int) / 4503599627370496 - 1 = L from by omega]
    clear RF hnan eF eE hk cE
    by_cases h0 : E = 0
    · have hm : F = (M : Int) := by rw [if_pos h0] at eM; exact eM
      have hl : L = -1074 := by rw [if_pos h0] at eL; exact eL.symm
      have b2 : ((M : Int) == 0) = false := by simp; omega
      clear eM eL HM HL c0 HF HE w2 b1 hF1 hE1 hF0 hE0
      subst hm
      subst hl
      subst h0
      go_enter Tryz.func20, Tryz.ntmps20
      go_wp2_with fail
      refine (refNumber_any _ _ _ zs _ hr (by decide)).mono ?_
      rw [HNN.out]
      rintro e w ⟨rfl, rfl⟩
      go_wp2_with fail
      refine (form64 _).mono ?_
      rintro e w ⟨rfl, rfl⟩
      go_wp2_with fail
      go_quiet (fail)
      go_wp2_with fail
      go_loop [8, 9] (fun l f => ∃ k q : Nat, f = .int .u64 (q : Int) ∧ l = .int .i64 ((-1074) + (k : Int)) ∧ M = q * 2 ^ k) (fun _ f => (intOf f).toNat)
      case atStart => exact ⟨0, M, rfl, by rw [Int.natCast_zero, Int.add_zero], by simp⟩
      case round =>
        obtain ⟨k, q, rfl, rfl, hv⟩ := hrel
        obtain ⟨hk, hq0, hq1⟩ := half_bound M q k hM0 hM1 hv
        have hkI : (k : Int) < 64 := by omega
        have tm : (q : Int).tmod 2 = (q : Int) % 2 := Int.tmod_eq_emod_of_nonneg (by omega)
        by_cases ho : q % 2 = 1
        · have b4 : ((q : Int) % 2 == 0) = false := by simp; omega
          have RW : Hid (str (45 :: oddS M (-1074)) = ⟨#[45]⟩ ++ str (Lib.decDigits q) ++ ⟨#[112]⟩ ++ str (Lib.itoa ((-1074) + (k : Int)))) := by
            show _ = _
            rw [oddS_of M q k (-1074) hM0 hM1 hv ho]
            exact (str5 [45] _ _ _).symm
          have y1 := dec_len q (by omega)
          have y2 := itoa_len ((-1074) + (k : Int)) (by omega) (by omega)
          obtain ⟨s1, HS1⟩ : ∃ s, Hid (str (Lib.decDigits q) = s) := ⟨_, rfl⟩
          obtain ⟨s2, HS2⟩ : ∃ s, Hid (str (Lib.itoa ((-1074) + (k : Int))) = s) := ⟨_, rfl⟩
          change (str (Lib.decDigits q)).size ≤ 20 at y1
          change (str (Lib.itoa ((-1074) + (k : Int)))).size ≤ 21 at y2
          rw [HS1.out] at y1 RW
          rw [HS2.out] at y2 RW
          have ad1 := add_run ⟨#[45]⟩ s1 (by omega)
          have ad2 := add_run (⟨#[45]⟩ ++ s1) ⟨#[112]⟩ (by rw [ByteArray.size_append]; have : (⟨#[112]⟩ : ByteArray).size = 1 := rfl; omega)
          have ad3 := add_run (⟨#[45]⟩ ++ s1 ++ ⟨#[112]⟩) s2 (by rw [ByteArray.size_append, ByteArray.size_append]; have : (⟨#[112]⟩ : ByteArray).size = 1 := rfl; omega)
          have HD : Hid (∀ w : World, Calls Tryz.prog 19 #[.int .u64 (q : Int)] w fun e w' => e = .returned (.string s1) ∧ Below w.heap.size w w') := by
            have := digits_any q (by omega)
            rw [HS1.out] at this
            exact this
          have HG : Hid (∀ w : World, Calls Tryz.prog 17 #[.int .i64 ((-1074) + (k : Int))] w fun e w' => e = .returned (.string s2) ∧ Below w.heap.size w w') := by
            have := signed_any ((-1074) + (k : Int)) (by omega) (by omega)
            rw [HS2.out] at this
            exact this
          clear y1 y2 hv ho hq0
          go_wp2_with fail
          refine (HD.out _).mono ?_
          rintro e w1 ⟨rfl, hb1⟩
          go_wp2_with fail
          refine (HG.out _).mono ?_
          rintro e w2 ⟨rfl, hb2⟩
          go_wp2_with fail
          go_ret
          exact ⟨ret_str (by rw [RV.out, RW.out]), Below.andThen (Below.andThen (below_drewN (Below.refl _ _) _) hb1) hb2⟩
        · have b4 : ((q : Int) % 2 == 0) = true := by simp; omega
          have hw : IntKind.u64.wrap ((q : Int) / 2) = (q : Int) / 2 := u64_wrap_id _ (by omega) (by omega)
          have HV : Hid (M = q / 2 * 2 ^ (k + 1)) := by
            show M = _
            rw [hv, Nat.pow_succ, Nat.mul_comm (2 ^ k) 2, ← Nat.mul_assoc, show q / 2 * 2 = q from by omega]
          clear hv
          go_wp2_with fail
          exact ⟨⟨k + 1, q / 2, congrArg (Value.int .u64) (by omega), congrArg (Value.int .i64) (by omega), HV.out⟩, by simp [intOf]; omega⟩
    · have hm : F + 4503599627370496 = (M : Int) := by rw [if_neg h0] at eM; exact eM
      have hl : wrap64 (wrap64 (-1074 + E) - 1) = L := by rw [if_neg h0] at eL; simp only [wrap64]; omega
      have hwm : IntKind.u64.wrap (M : Int) = (M : Int) := u64_wrap_id _ (by omega) (by omega)
      have hl2 : -1074 + E - 1 = L := by rw [if_neg h0] at eL; exact eL
      have b2 : ((M : Int) == 0) = false := by simp; omega
      have b3 : (0 : Int) < E := by omega
      clear eM eL HM HL h0 c0 HF
      go_enter Tryz.func20, Tryz.ntmps20
      go_wp2_with fail
      refine (refNumber_any _ _ _ zs _ hr (by decide)).mono ?_
      rw [HNN.out]
      rintro e w ⟨rfl, rfl⟩
      go_wp2_with fail
      refine (form64 _).mono ?_
      rintro e w ⟨rfl, rfl⟩
      go_wp2_with fail
      go_quiet (fail)
      go_wp2_with fail
      go_loop [8, 9] (fun l f => ∃ k q : Nat, f = .int .u64 (q : Int) ∧ l = .int .i64 (L + (k : Int)) ∧ M = q * 2 ^ k) (fun _ f => (intOf f).toNat)
      case atStart => exact ⟨0, M, rfl, by rw [Int.natCast_zero, Int.add_zero], by simp⟩
      case round =>
        obtain ⟨k, q, rfl, rfl, hv⟩ := hrel
        obtain ⟨hk, hq0, hq1⟩ := half_bound M q k hM0 hM1 hv
        have hkI : (k : Int) < 64 := by omega
        have tm : (q : Int).tmod 2 = (q : Int) % 2 := Int.tmod_eq_emod_of_nonneg (by omega)
        by_cases ho : q % 2 = 1
        · have b4 : ((q : Int) % 2 == 0) = false := by simp; omega
          have RW : Hid (str (45 :: oddS M L) = ⟨#[45]⟩ ++ str (Lib.decDigits q) ++ ⟨#[112]⟩ ++ str (Lib.itoa (L + (k : Int)))) := by
            show _ = _
            rw [oddS_of M q k L hM0 hM1 hv ho]
            exact (str5 [45] _ _ _).symm
          have y1 := dec_len q (by omega)
          have y2 := itoa_len (L + (k : Int)) (by omega) (by omega)
          obtain ⟨s1, HS1⟩ : ∃ s, Hid (str (Lib.decDigits q) = s) := ⟨_, rfl⟩
          obtain ⟨s2, HS2⟩ : ∃ s, Hid (str (Lib.itoa (L + (k : Int))) = s) := ⟨_, rfl⟩
          change (str (Lib.decDigits q)).size ≤ 20 at y1
          change (str (Lib.itoa (L + (k : Int)))).size ≤ 21 at y2
          rw [HS1.out] at y1 RW
          rw [HS2.out] at y2 RW
          have ad1 := add_run ⟨#[45]⟩ s1 (by omega)
          have ad2 := add_run (⟨#[45]⟩ ++ s1) ⟨#[112]⟩ (by rw [ByteArray.size_append]; have : (⟨#[112]⟩ : ByteArray).size = 1 := rfl; omega)
          have ad3 := add_run (⟨#[45]⟩ ++ s1 ++ ⟨#[112]⟩) s2 (by rw [ByteArray.size_append, ByteArray.size_append]; have : (⟨#[112]⟩ : ByteArray).size = 1 := rfl; omega)
          have HD : Hid (∀ w : World, Calls Tryz.prog 19 #[.int .u64 (q : Int)] w fun e w' => e = .returned (.string s1) ∧ Below w.heap.size w w') := by
            have := digits_any q (by omega)
            rw [HS1.out] at this
            exact this
          have HG : Hid (∀ w : World, Calls Tryz.prog 17 #[.int .i64 (L + (k : Int))] w fun e w' => e = .returned (.string s2) ∧ Below w.heap.size w w') := by
            have := signed_any (L + (k : Int)) (by omega) (by omega)
            rw [HS2.out] at this
            exact this
          clear y1 y2 hv ho hq0
          go_wp2_with fail
          refine (HD.out _).mono ?_
          rintro e w1 ⟨rfl, hb1⟩
          go_wp2_with fail
          refine (HG.out _).mono ?_
          rintro e w2 ⟨rfl, hb2⟩
          go_wp2_with fail
          go_ret
          exact ⟨ret_str (by rw [RV.out, RW.out]), Below.andThen (Below.andThen (below_drewN (Below.refl _ _) _) hb1) hb2⟩
        · have b4 : ((q : Int) % 2 == 0) = true := by simp; omega
          have hw : IntKind.u64.wrap ((q : Int) / 2) = (q : Int) / 2 := u64_wrap_id _ (by omega) (by omega)
          have HV : Hid (M = q / 2 * 2 ^ (k + 1)) := by
            show M = _
            rw [hv, Nat.pow_succ, Nat.mul_comm (2 ^ k) 2, ← Nat.mul_assoc, show q / 2 * 2 = q from by omega]
          clear hv
          go_wp2_with fail
          exact ⟨⟨k + 1, q / 2, congrArg (Value.int .u64) (by omega), congrArg (Value.int .i64) (by omega), HV.out⟩, by simp [intOf]; omega⟩
  · have sg : ((N : Int) / 9223372036854775808 == 1) = false := by simp; omega
    have z0 : (⟨#[]⟩ : ByteArray).size = 0 := rfl
    by_cases cE : E = 2047
    · by_cases cF : F = 0
      · have RV : Hid (str (rf64 zs) = ⟨#[]⟩ ++ ⟨#[105, 110, 102]⟩) := by
          show _ = _
          rw [RF, if_neg (show ¬ 9218868437227405312 < N % 9223372036854775808 by omega), if_neg (show ¬ N / 9223372036854775808 = 1 by omega), show N % 9223372036854775808 = 9218868437227405312 from by omega]
          rfl
        have b1 : (E == 2047) = true := by simp; omega
        have b2 : (F == 0) = true := by simp; omega
        have ad := add_run ⟨#[]⟩ ⟨#[105, 110, 102]⟩ (by decide)
        clear RF eF eE cE cF hk
        go_enter Tryz.func20, Tryz.ntmps20
        go_wp2_with fail
        refine (refNumber_any _ _ _ zs _ hr (by decide)).mono ?_
        rw [HNN.out]
        rintro e w ⟨rfl, rfl⟩
        go_wp2_with fail
        refine (form64 _).mono ?_
        rintro e w ⟨rfl, rfl⟩
        go_wp2_with fail
        go_quiet (fail)
        go_wp2_with fail
        go_ret
        exact ⟨ret_str RV.out.symm, (below_drewN (Below.refl _ _) _)⟩
      · have RV : Hid (str (rf64 zs) = ⟨#[110, 97, 110, 58]⟩ ++ strOfNums (hexR (N : Int) 16)) := by
          show _ = _
          rw [RF, if_pos (show 9218868437227405312 < N % 9223372036854775808 by omega), ← str_append]
          rfl
        have b1 : (E == 2047) = true := by simp; omega
        have b2 : (F == 0) = false := by simp; omega
        obtain ⟨s1, HS⟩ : ∃ s, Hid (strOfNums (hexR (N : Int) 16) = s) := ⟨_, rfl⟩
        have zs1 : s1.size = 16 := by rw [← HS.out, strOfNums_size, hexR_len]
        rw [HS.out] at RV
        have ad := add_run ⟨#[110, 97, 110, 58]⟩ s1 (by have : (⟨#[110, 97, 110, 58]⟩ : ByteArray).size = 4 := rfl; omega)
        clear RF eF eE cE cF hk zs1
        go_enter Tryz.func20, Tryz.ntmps20
        go_wp2_with fail
        refine (refNumber_any _ _ _ zs _ hr (by decide)).mono ?_
        rw [HNN.out]
        rintro e w ⟨rfl, rfl⟩
        go_wp2_with fail
        refine (form64 _).mono ?_
        rintro e w ⟨rfl, rfl⟩
        go_wp2_with fail
        go_quiet (fail)
        go_wp2_with fail
        refine (refHex_any (N : Int) 16 _ hn0 (by omega) (by decide)).mono ?_
        rw [HS.out]
        rintro e w1 ⟨rfl, hb1⟩
        go_wp2_with fail
        go_ret
        exact ⟨ret_str RV.out.symm, Below.andThen (below_drewN (Below.refl _ _) _) hb1⟩
    have b1 : (E == 2047) = false := by simp; omega
    have hnan : ¬ 9218868437227405312 < N % 9223372036854775808 := by omega
    by_cases c0 : E = 0 ∧ F = 0
    · have RV : Hid (str (rf64 zs) = ⟨#[]⟩ ++ ⟨#[48, 112, 48]⟩) := by
        show _ = _
        rw [RF, if_neg hnan, if_neg (show ¬ N / 9223372036854775808 = 1 by omega), show N % 9223372036854775808 = 0 from by omega]
        rfl
      have ad := add_run ⟨#[]⟩ ⟨#[48, 112, 48]⟩ (by decide)
      obtain ⟨hE, hF⟩ := c0
      clear RF eF eE cE hk hnan HE HF w2 b1 hF1 hE1 hF0 hE0
      subst hE
      subst hF
      go_enter Tryz.func20, Tryz.ntmps20
      go_wp2_with fail
      refine (refNumber_any _ _ _ zs _ hr (by decide)).mono ?_
      rw [HNN.out]
      rintro e w ⟨rfl, rfl⟩
      go_wp2_with fail
      refine (form64 _).mono ?_
      rintro e w ⟨rfl, rfl⟩
      go_wp2_with fail
      go_quiet (fail)
      go_wp2_with fail
      go_ret
      exact ⟨ret_str RV.out.symm, (below_drewN (Below.refl _ _) _)⟩
    obtain ⟨M, HM⟩ : ∃ M : Nat, Hid ((if E = 0 then F else F + 4503599627370496) = (M : Int)) := ⟨(if E = 0 then F else F + 4503599627370496).toNat, by show _ = _; rw [Int.toNat_of_nonneg]; split <;> omega⟩
    obtain ⟨L, HL⟩ : ∃ L : Int, Hid ((if E = 0 then (-1074 : Int) else -1074 + E - 1) = L) := ⟨_, rfl⟩
    have eM := HM.out
    have eL := HL.out
    have hM0 : M ≠ 0 := by split at eM <;> omega
    have hM1 : M < 18446744073709551616 := by split at eM <;> omega
    have hL0 : -1074 ≤ L := by split at eL <;> omega
    have hL1 : L ≤ 3000 := by split at eL <;> omega
    have RV : Hid (rf64 zs = oddS M L) := by
      show _ = _
      rw [RF, if_neg hnan, if_neg (show ¬ N / 9223372036854775808 = 1 by omega)]
      unfold sizeS
      rw [if_neg (show ¬ N % 9223372036854775808 = 9218868437227405312 by omega), if_neg (show ¬ N % 9223372036854775808 = 0 by omega)]
      by_cases h0 : E = 0
      · rw [if_pos h0] at eM eL
        rw [if_pos (show N % 9223372036854775808 < 4503599627370496 by omega), show N % 9223372036854775808 = M from by omega, eL]
      · rw [if_neg h0] at eM eL
        rw [if_neg (show ¬ N % 9223372036854775808 < 4503599627370496 by omega), show 4503599627370496 + N % 9223372036854775808 % 4503599627370496 = M from by omega, show -1074 + ((N % 9223372036854775808 : Nat) : Int) / 4503599627370496 - 1 = L from by omega]
    clear RF hnan eF eE hk cE
    by_cases h0 : E = 0
    · have hm : F = (M : Int) := by rw [if_pos h0] at eM; exact eM
      have hl : L = -1074 := by rw [if_pos h0] at eL; exact eL.symm
      have b2 : ((M : Int) == 0) = false := by simp; omega
      clear eM eL HM HL c0 HF HE w2 b1 hF1 hE1 hF0 hE0
      subst hm
      subst hl
      subst h0
      go_enter Tryz.func20, Tryz.ntmps20
      go_wp2_with fail
      refine (refNumber_any _ _ _ zs _ hr (by decide)).mono ?_
      rw [HNN.out]
      rintro e w ⟨rfl, rfl⟩
      go_wp2_with fail
      refine (form64 _).mono ?_
      rintro e w ⟨rfl, rfl⟩
      go_wp2_with fail
      go_quiet (fail)
      go_wp2_with fail
      go_loop [8, 9] (fun l f => ∃ k q : Nat, f = .int .u64 (q : Int) ∧ l = .int .i64 ((-1074) + (k : Int)) ∧ M = q * 2 ^ k) (fun _ f => (intOf f).toNat)
      case atStart => exact ⟨0, M, rfl, by rw [Int.natCast_zero, Int.add_zero], by simp⟩
      case round =>
        obtain ⟨k, q, rfl, rfl, hv⟩ := hrel
        obtain ⟨hk, hq0, hq1⟩ := half_bound M q k hM0 hM1 hv
        have hkI : (k : Int) < 64 := by omega
        have tm : (q : Int).tmod 2 = (q : Int) % 2 := Int.tmod_eq_emod_of_nonneg (by omega)
        by_cases ho : q % 2 = 1
        · have b4 : ((q : Int) % 2 == 0) = false := by simp; omega
          have RW : Hid (str (oddS M (-1074)) = ⟨#[]⟩ ++ str (Lib.decDigits q) ++ ⟨#[112]⟩ ++ str (Lib.itoa ((-1074) + (k : Int)))) := by
            show _ = _
            rw [oddS_of M q k (-1074) hM0 hM1 hv ho]
            exact (str5 [] _ _ _).symm
          have y1 := dec_len q (by omega)
          have y2 := itoa_len ((-1074) + (k : Int)) (by omega) (by omega)
          obtain ⟨s1, HS1⟩ : ∃ s, Hid (str (Lib.decDigits q) = s) := ⟨_, rfl⟩
          obtain ⟨s2, HS2⟩ : ∃ s, Hid (str (Lib.itoa ((-1074) + (k : Int))) = s) := ⟨_, rfl⟩
          change (str (Lib.decDigits q)).size ≤ 20 at y1
          change (str (Lib.itoa ((-1074) + (k : Int)))).size ≤ 21 at y2
          rw [HS1.out] at y1 RW
          rw [HS2.out] at y2 RW
          have ad1 := add_run ⟨#[]⟩ s1 (by omega)
          have ad2 := add_run (⟨#[]⟩ ++ s1) ⟨#[112]⟩ (by rw [ByteArray.size_append]; have : (⟨#[112]⟩ : ByteArray).size = 1 := rfl; omega)
          have ad3 := add_run (⟨#[]⟩ ++ s1 ++ ⟨#[112]⟩) s2 (by rw [ByteArray.size_append, ByteArray.size_append]; have : (⟨#[112]⟩ : ByteArray).size = 1 := rfl; omega)
          have HD : Hid (∀ w : World, Calls Tryz.prog 19 #[.int .u64 (q : Int)] w fun e w' => e = .returned (.string s1) ∧ Below w.heap.size w w') := by
            have := digits_any q (by omega)
            rw [HS1.out] at this
            exact this
          have HG : Hid (∀ w : World, Calls Tryz.prog 17 #[.int .i64 ((-1074) + (k : Int))] w fun e w' => e = .returned (.string s2) ∧ Below w.heap.size w w') := by
            have := signed_any ((-1074) + (k : Int)) (by omega) (by omega)
            rw [HS2.out] at this
            exact this
          clear y1 y2 hv ho hq0
          go_wp2_with fail
          refine (HD.out _).mono ?_
          rintro e w1 ⟨rfl, hb1⟩
          go_wp2_with fail
          refine (HG.out _).mono ?_
          rintro e w2 ⟨rfl, hb2⟩
          go_wp2_with fail
          go_ret
          exact ⟨ret_str (by rw [RV.out, RW.out]), Below.andThen (Below.andThen (below_drewN (Below.refl _ _) _) hb1) hb2⟩
        · have b4 : ((q : Int) % 2 == 0) = true := by simp; omega
          have hw : IntKind.u64.wrap ((q : Int) / 2) = (q : Int) / 2 := u64_wrap_id _ (by omega) (by omega)
          have HV : Hid (M = q / 2 * 2 ^ (k + 1)) := by
            show M = _
            rw [hv, Nat.pow_succ, Nat.mul_comm (2 ^ k) 2, ← Nat.mul_assoc, show q / 2 * 2 = q from by omega]
          clear hv
          go_wp2_with fail
          exact ⟨⟨k + 1, q / 2, congrArg (Value.int .u64) (by omega), congrArg (Value.int .i64) (by omega), HV.out⟩, by simp [intOf]; omega⟩
    · have hm : F + 4503599627370496 = (M : Int) := by rw [if_neg h0] at eM; exact eM
      have hl : wrap64 (wrap64 (-1074 + E) - 1) = L := by rw [if_neg h0] at eL; simp only [wrap64]; omega
      have hwm : IntKind.u64.wrap (M : Int) = (M : Int) := u64_wrap_id _ (by omega) (by omega)
      have hl2 : -1074 + E - 1 = L := by rw [if_neg h0] at eL; exact eL
      have b2 : ((M : Int) == 0) = false := by simp; omega
      have b3 : (0 : Int) < E := by omega
      clear eM eL HM HL h0 c0 HF
      go_enter Tryz.func20, Tryz.ntmps20
      go_wp2_with fail
      refine (refNumber_any _ _ _ zs _ hr (by decide)).mono ?_
      rw [HNN.out]
      rintro e w ⟨rfl, rfl⟩
      go_wp2_with fail
      refine (form64 _).mono ?_
      rintro e w ⟨rfl, rfl⟩
      go_wp2_with fail
      go_quiet (fail)
      go_wp2_with fail
      go_loop [8, 9] (fun l f => ∃ k q : Nat, f = .int .u64 (q : Int) ∧ l = .int .i64 (L + (k : Int)) ∧ M = q * 2 ^ k) (fun _ f => (intOf f).toNat)
      case atStart => exact ⟨0, M, rfl, by rw [Int.natCast_zero, Int.add_zero], by simp⟩
      case round =>
        obtain ⟨k, q, rfl, rfl, hv⟩ := hrel
        obtain ⟨hk, hq0, hq1⟩ := half_bound M q k hM0 hM1 hv
        have hkI : (k : Int) < 64 := by omega
        have tm : (q : Int).tmod 2 = (q : Int) % 2 := Int.tmod_eq_emod_of_nonneg (by omega)
        by_cases ho : q % 2 = 1
        · have b4 : ((q : Int) % 2 == 0) = false := by simp; omega
          have RW : Hid (str (oddS M L) = ⟨#[]⟩ ++ str (Lib.decDigits q) ++ ⟨#[112]⟩ ++ str (Lib.itoa (L + (k : Int)))) := by
            show _ = _
            rw [oddS_of M q k L hM0 hM1 hv ho]
            exact (str5 [] _ _ _).symm
          have y1 := dec_len q (by omega)
          have y2 := itoa_len (L + (k : Int)) (by omega) (by omega)
          obtain ⟨s1, HS1⟩ : ∃ s, Hid (str (Lib.decDigits q) = s) := ⟨_, rfl⟩
          obtain ⟨s2, HS2⟩ : ∃ s, Hid (str (Lib.itoa (L + (k : Int))) = s) := ⟨_, rfl⟩
          change (str (Lib.decDigits q)).size ≤ 20 at y1
          change (str (Lib.itoa (L + (k : Int)))).size ≤ 21 at y2
          rw [HS1.out] at y1 RW
          rw [HS2.out] at y2 RW
          have ad1 := add_run ⟨#[]⟩ s1 (by omega)
          have ad2 := add_run (⟨#[]⟩ ++ s1) ⟨#[112]⟩ (by rw [ByteArray.size_append]; have : (⟨#[112]⟩ : ByteArray).size = 1 := rfl; omega)
          have ad3 := add_run (⟨#[]⟩ ++ s1 ++ ⟨#[112]⟩) s2 (by rw [ByteArray.size_append, ByteArray.size_append]; have : (⟨#[112]⟩ : ByteArray).size = 1 := rfl; omega)
          have HD : Hid (∀ w : World, Calls Tryz.prog 19 #[.int .u64 (q : Int)] w fun e w' => e = .returned (.string s1) ∧ Below w.heap.size w w') := by
            have := digits_any q (by omega)
            rw [HS1.out] at this
            exact this
          have HG : Hid (∀ w : World, Calls Tryz.prog 17 #[.int .i64 (L + (k : Int))] w fun e w' => e = .returned (.string s2) ∧ Below w.heap.size w w') := by
            have := signed_any (L + (k : Int)) (by omega) (by omega)
            rw [HS2.out] at this
            exact this
          clear y1 y2 hv ho hq0
          go_wp2_with fail
          refine (HD.out _).mono ?_
          rintro e w1 ⟨rfl, hb1⟩
          go_wp2_with fail
          refine (HG.out _).mono ?_
          rintro e w2 ⟨rfl, hb2⟩
          go_wp2_with fail
          go_ret
          exact ⟨ret_str (by rw [RV.out, RW.out]), Below.andThen (Below.andThen (below_drewN (Below.refl _ _) _) hb1) hb2⟩
        · have b4 : ((q : Int) % 2 == 0) = true := by simp; omega
          have hw : IntKind.u64.wrap ((q : Int) / 2) = (q : Int) / 2 := u64_wrap_id _ (by omega) (by omega)
          have HV : Hid (M = q / 2 * 2 ^ (k + 1)) := by
            show M = _
            rw [hv, Nat.pow_succ, Nat.mul_comm (2 ^ k) 2, ← Nat.mul_assoc, show q / 2 * 2 = q from by omega]
          clear hv
          go_wp2_with fail
          exact ⟨⟨k + 1, q / 2, congrArg (Value.int .u64) (by omega), congrArg (Value.int .i64) (by omega), HV.out⟩, by simp [intOf]; omega⟩
#print axioms refFloat64

/-- What is told of a float of 4 bytes. -/
def rf32 (zs : List Int) : List UInt8 :=
  if 2139095040 < (num zs).toNat % 2147483648 then [110, 97, 110, 58] ++ byteL (hexL zs.reverse)
  else if (num zs).toNat / 2147483648 = 1 then 45 :: sizeS32 ((num zs).toNat % 2147483648) else sizeS32 ((num zs).toNat % 2147483648)

set_option maxHeartbeats 16000000 in
set_option maxRecDepth 100000 in
theorem refFloat32 (a : Option Addr) (cap : Nat) (zs : List Int) (w : World) (hr : Row w a 4 zs) :
    Calls Tryz.prog 20 #[.int .u8 8, .slice a 4 cap] w fun e w' => e = .returned (.string (str (rf32 zs))) ∧ Below w.heap.size w w' := by
  have hb := num_bd zs hr.oct
  rw [hr.size] at hb
  have hn0 := hb.1
  have hn1 : num zs < 4294967296 := hb.2
  clear hb
  have hh := hexL_hexR zs hr.oct
  rw [hr.size] at hh
  obtain ⟨N, HN⟩ : ∃ N : Nat, num zs = (N : Int) := Int.eq_ofNat_of_zero_le hn0
  have HNN : Hid (num zs = (N : Int)) := HN
  rw [HN] at hn0 hn1 hh
  have hNl : N < 4294967296 := by omega
  have RF : rf32 zs = (if 2139095040 < N % 2147483648 then [110, 97, 110, 58] ++ byteL (hexR (N : Int) (2 * 4)) else if N / 2147483648 = 1 then 45 :: sizeS32 (N % 2147483648) else sizeS32 (N % 2147483648)) := by
    unfold rf32; rw [HN, hh, Int.toNat_natCast]
  clear HN hh
  obtain ⟨F, HF⟩ : ∃ F : Int, Hid ((N : Int) % 8388608 = F) := ⟨_, rfl⟩
  obtain ⟨E, HE⟩ : ∃ E : Int, Hid ((N : Int) / 8388608 % 256 = E) := ⟨_, rfl⟩
  have eF := HF.out
  have eE := HE.out
  have a1 : bits .and .u64 (N : Int) 8388607 = F := by rw [and_low 23 _ _ (by omega) (by omega) (by decide) (by decide), ← HF.out]; rfl
  have a2 : bits .and .u64 ((N : Int) / 8388608) 255 = E := by rw [and_low 8 _ _ (by omega) (by omega) (by decide) (by decide), ← HE.out]; rfl
  have w2 : wrap64 E = E := by simp only [wrap64]; omega
  have hF1 : F < 8388608 := by omega
  have hE1 : E < 256 := by omega
  have hF0 : 0 ≤ F := by omega
  have hE0 : 0 ≤ E := by omega
  have RK : N / 2147483648 = 1 ∨ N / 2147483648 = 0 := by omega
  rcases RK with hk | hk
  · have sg : ((N : Int) / 2147483648 == 1) = true := by simp; omega
    have z0 : (⟨#[45]⟩ : ByteArray).size = 1 := rfl
    by_cases cE : E = 255
    · by_cases cF : F = 0
      · have RV : Hid (str (rf32 zs) = ⟨#[45]⟩ ++ ⟨#[105, 110, 102]⟩) := by
          show _ = _
          rw [RF, if_neg (show ¬ 2139095040 < N % 2147483648 by omega), if_pos hk, show N % 2147483648 = 2139095040 from by omega]
          rfl
        have b1 : (E == 255) = true := by simp; omega
        have b2 : (F == 0) = true := by simp; omega
        have ad := add_run ⟨#[45]⟩ ⟨#[105, 110, 102]⟩ (by decide)
        clear RF eF eE cE cF hk
        go_enter Tryz.func20, Tryz.ntmps20
        go_wp2_with fail
        refine (refNumber_any _ _ _ zs _ hr (by decide)).mono ?_
        rw [HNN.out]
        rintro e w ⟨rfl, rfl⟩
        go_wp2_with fail
        refine (form32 _).mono ?_
        rintro e w ⟨rfl, rfl⟩
        go_wp2_with fail
        go_quiet (fail)
        go_wp2_with fail
        go_ret
        exact ⟨ret_str RV.out.symm, (below_drewN (Below.refl _ _) _)⟩
      · have RV : Hid (str (rf32 zs) = ⟨#[110, 97, 110, 58]⟩ ++ strOfNums (hexR (N : Int) 8)) := by
          show _ = _
          rw [RF, if_pos (show 2139095040 < N % 2147483648 by omega), ← str_append]
          rfl
        have b1 : (E == 255) = true := by simp; omega
        have b2 : (F == 0) = false := by simp; omega
        obtain ⟨s1, HS⟩ : ∃ s, Hid (strOfNums (hexR (N : Int) 8) = s) := ⟨_, rfl⟩
        have zs1 : s1.size = 8 := by rw [← HS.out, strOfNums_size, hexR_len]
        rw [HS.out] at RV
        have ad := add_run ⟨#[110, 97, 110, 58]⟩ s1 (by have : (⟨#[110, 97, 110, 58]⟩ : ByteArray).size = 4 := rfl; omega)
        clear RF eF eE cE cF hk zs1
        go_enter Tryz.func20, Tryz.ntmps20
        go_wp2_with fail
        refine (refNumber_any _ _ _ zs _ hr (by decide)).mono ?_
        rw [HNN.out]
        rintro e w ⟨rfl, rfl⟩
        go_wp2_with fail
        refine (form32 _).mono ?_
        rintro e w ⟨rfl, rfl⟩
        go_wp2_with fail
        go_quiet (fail)
        go_wp2_with fail
        refine (refHex_any (N : Int) 8 _ hn0 (by omega) (by decide)).mono ?_
        rw [HS.out]
        rintro e w1 ⟨rfl, hb1⟩
        go_wp2_with fail
        go_ret
        exact ⟨ret_str RV.out.symm, Below.andThen (below_drewN (Below.refl _ _) _) hb1⟩
    have b1 : (E == 255) = false := by simp; omega
    have hnan : ¬ 2139095040 < N % 2147483648 := by omega
    by_cases c0 : E = 0 ∧ F = 0
    · have RV : Hid (str (rf32 zs) = ⟨#[45]⟩ ++ ⟨#[48, 112, 48]⟩) := by
        show _ = _
        rw [RF, if_neg hnan, if_pos hk, show N % 2147483648 = 0 from by omega]
        rfl
      have ad := add_run ⟨#[45]⟩ ⟨#[48, 112, 48]⟩ (by decide)
      obtain ⟨hE, hF⟩ := c0
      clear RF eF eE cE hk hnan HE HF w2 b1 hF1 hE1 hF0 hE0
      subst hE
      subst hF
      go_enter Tryz.func20, Tryz.ntmps20
      go_wp2_with fail
      refine (refNumber_any _ _ _ zs _ hr (by decide)).mono ?_
      rw [HNN.out]
      rintro e w ⟨rfl, rfl⟩
      go_wp2_with fail
      refine (form32 _).mono ?_
      rintro e w ⟨rfl, rfl⟩
      go_wp2_with fail
      go_quiet (fail)
      go_wp2_with fail
      go_ret
      exact ⟨ret_str RV.out.symm, (below_drewN (Below.refl _ _) _)⟩
    obtain ⟨M, HM⟩ : ∃ M : Nat, Hid ((if E = 0 then F else F + 8388608) = (M : Int)) := ⟨(if E = 0 then F else F + 8388608).toNat, by show _ = _; rw [Int.toNat_of_nonneg]; split <;> omega⟩
    obtain ⟨L, HL⟩ : ∃ L : Int, Hid ((if E = 0 then (-149 : Int) else -149 + E - 1) = L) := ⟨_, rfl⟩
    have eM := HM.out
    have eL := HL.out
    have hM0 : M ≠ 0 := by split at eM <;> omega
    have hM1 : M < 18446744073709551616 := by split at eM <;> omega
    have hL0 : -149 ≤ L := by split at eL <;> omega
    have hL1 : L ≤ 3000 := by split at eL <;> omega
    have RV : Hid (rf32 zs = 45 :: oddS M L) := by
      show _ = _
      rw [RF, if_neg hnan, if_pos hk]
      unfold sizeS32
      rw [if_neg (show ¬ N % 2147483648 = 2139095040 by omega), if_neg (show ¬ N % 2147483648 = 0 by omega)]
      by_cases h0 : E = 0
      · rw [if_pos h0] at eM eL
        rw [if_pos (show N % 2147483648 < 8388608 by omega), show N % 2147483648 = M from by omega, eL]
      · rw [if_neg h0] at eM eL
        rw [if_neg (show ¬ N % 2147483648 < 8388608 by omega), show 8388608 + N % 2147483648 % 8388608 = M from by omega, show -149 + ((N % 2147483648 : Nat) : Int) / 8388608 - 1 = L from by omega]
    clear RF hnan eF eE hk cE
    by_cases h0 : E = 0
    · have hm : F = (M : Int) := by rw [if_pos h0] at eM; exact eM
      have hl : L = -149 := by rw [if_pos h0] at eL; exact eL.symm
      have b2 : ((M : Int) == 0) = false := by simp; omega
      clear eM eL HM HL c0 HF HE w2 b1 hF1 hE1 hF0 hE0
      subst hm
      subst hl
      subst h0
      go_enter Tryz.func20, Tryz.ntmps20
      go_wp2_with fail
      refine (refNumber_any _ _ _ zs _ hr (by decide)).mono ?_
      rw [HNN.out]
      rintro e w ⟨rfl, rfl⟩
      go_wp2_with fail
      refine (form32 _).mono ?_
      rintro e w ⟨rfl, rfl⟩
      go_wp2_with fail
      go_quiet (fail)
      go_wp2_with fail
      go_loop [8, 9] (fun l f => ∃ k q : Nat, f = .int .u64 (q : Int) ∧ l = .int .i64 ((-149) + (k : Int)) ∧ M = q * 2 ^ k) (fun _ f => (intOf f).toNat)
      case atStart => exact ⟨0, M, rfl, by rw [Int.natCast_zero, Int.add_zero], by simp⟩
      case round =>
        obtain ⟨k, q, rfl, rfl, hv⟩ := hrel
        obtain ⟨hk, hq0, hq1⟩ := half_bound M q k hM0 hM1 hv
        have hkI : (k : Int) < 64 := by omega
        have tm : (q : Int).tmod 2 = (q : Int) % 2 := Int.tmod_eq_emod_of_nonneg (by omega)
        by_cases ho : q % 2 = 1
        · have b4 : ((q : Int) % 2 == 0) = false := by simp; omega
          have RW : Hid (str (45 :: oddS M (-149)) = ⟨#[45]⟩ ++ str (Lib.decDigits q) ++ ⟨#[112]⟩ ++ str (Lib.itoa ((-149) + (k : Int)))) := by
            show _ = _
            rw [oddS_of M q k (-149) hM0 hM1 hv ho]
            exact (str5 [45] _ _ _).symm
          have y1 := dec_len q (by omega)
          have y2 := itoa_len ((-149) + (k : Int)) (by omega) (by omega)
          obtain ⟨s1, HS1⟩ : ∃ s, Hid (str (Lib.decDigits q) = s) := ⟨_, rfl⟩
          obtain ⟨s2, HS2⟩ : ∃ s, Hid (str (Lib.itoa ((-149) + (k : Int))) = s) := ⟨_, rfl⟩
          change (str (Lib.decDigits q)).size ≤ 20 at y1
          change (str (Lib.itoa ((-149) + (k : Int)))).size ≤ 21 at y2
          rw [HS1.out] at y1 RW
          rw [HS2.out] at y2 RW
          have ad1 := add_run ⟨#[45]⟩ s1 (by omega)
          have ad2 := add_run (⟨#[45]⟩ ++ s1) ⟨#[112]⟩ (by rw [ByteArray.size_append]; have : (⟨#[112]⟩ : ByteArray).size = 1 := rfl; omega)
          have ad3 := add_run (⟨#[45]⟩ ++ s1 ++ ⟨#[112]⟩) s2 (by rw [ByteArray.size_append, ByteArray.size_append]; have : (⟨#[112]⟩ : ByteArray).size = 1 := rfl; omega)
          have HD : Hid (∀ w : World, Calls Tryz.prog 19 #[.int .u64 (q : Int)] w fun e w' => e = .returned (.string s1) ∧ Below w.heap.size w w') := by
            have := digits_any q (by omega)
            rw [HS1.out] at this
            exact this
          have HG : Hid (∀ w : World, Calls Tryz.prog 17 #[.int .i64 ((-149) + (k : Int))] w fun e w' => e = .returned (.string s2) ∧ Below w.heap.size w w') := by
            have := signed_any ((-149) + (k : Int)) (by omega) (by omega)
            rw [HS2.out] at this
            exact this
          clear y1 y2 hv ho hq0
          go_wp2_with fail
          refine (HD.out _).mono ?_
          rintro e w1 ⟨rfl, hb1⟩
          go_wp2_with fail
          refine (HG.out _).mono ?_
          rintro e w2 ⟨rfl, hb2⟩
          go_wp2_with fail
          go_ret
          exact ⟨ret_str (by rw [RV.out, RW.out]), Below.andThen (Below.andThen (below_drewN (Below.refl _ _) _) hb1) hb2⟩
        · have b4 : ((q : Int) % 2 == 0) = true := by simp; omega
          have hw : IntKind.u64.wrap ((q : Int) / 2) = (q : Int) / 2 := u64_wrap_id _ (by omega) (by omega)
          have HV : Hid (M = q / 2 * 2 ^ (k + 1)) := by
            show M = _
            rw [hv, Nat.pow_succ, Nat.mul_comm (2 ^ k) 2, ← Nat.mul_assoc, show q / 2 * 2 = q from by omega]
          clear hv
          go_wp2_with fail
          exact ⟨⟨k + 1, q / 2, congrArg (Value.int .u64) (by omega), congrArg (Value.int .i64) (by omega), HV.out⟩, by simp [intOf]; omega⟩
    · have hm : F + 8388608 = (M : Int) := by rw [if_neg h0] at eM; exact eM
      have hl : wrap64 (wrap64 (-149 + E) - 1) = L := by rw [if_neg h0] at eL; simp only [wrap64]; omega
      have hwm : IntKind.u64.wrap (M : Int) = (M : Int) := u64_wrap_id _ (by omega) (by omega)
      have hl2 : -149 + E - 1 = L := by rw [if_neg h0] at eL; exact eL
      have b2 : ((M : Int) == 0) = false := by simp; omega
      have b3 : (0 : Int) < E := by omega
      clear eM eL HM HL h0 c0 HF
      go_enter Tryz.func20, Tryz.ntmps20
      go_wp2_with fail
      refine (refNumber_any _ _ _ zs _ hr (by decide)).mono ?_
      rw [HNN.out]
      rintro e w ⟨rfl, rfl⟩
      go_wp2_with fail
      refine (form32 _).mono ?_
      rintro e w ⟨rfl, rfl⟩
      go_wp2_with fail
      go_quiet (fail)
      go_wp2_with fail
      go_loop [8, 9] (fun l f => ∃ k q : Nat, f = .int .u64 (q : Int) ∧ l = .int .i64 (L + (k : Int)) ∧ M = q * 2 ^ k) (fun _ f => (intOf f).toNat)
      case atStart => exact ⟨0, M, rfl, by rw [Int.natCast_zero, Int.add_zero], by simp⟩
      case round =>
        obtain ⟨k, q, rfl, rfl, hv⟩ := hrel
        obtain ⟨hk, hq0, hq1⟩ := half_bound M q k hM0 hM1 hv
        have hkI : (k : Int) < 64 := by omega
        have tm : (q : Int).tmod 2 = (q : Int) % 2 := Int.tmod_eq_emod_of_nonneg (by omega)
        by_cases ho : q % 2 = 1
        · have b4 : ((q : Int) % 2 == 0) = false := by simp; omega
          have RW : Hid (str (45 :: oddS M L) = ⟨#[45]⟩ ++ str (Lib.decDigits q) ++ ⟨#[112]⟩ ++ str (Lib.itoa (L + (k : Int)))) := by
            show _ = _
            rw [oddS_of M q k L hM0 hM1 hv ho]
            exact (str5 [45] _ _ _).symm
          have y1 := dec_len q (by omega)
          have y2 := itoa_len (L + (k : Int)) (by omega) (by omega)
          obtain ⟨s1, HS1⟩ : ∃ s, Hid (str (Lib.decDigits q) = s) := ⟨_, rfl⟩
          obtain ⟨s2, HS2⟩ : ∃ s, Hid (str (Lib.itoa (L + (k : Int))) = s) := ⟨_, rfl⟩
          change (str (Lib.decDigits q)).size ≤ 20 at y1
          change (str (Lib.itoa (L + (k : Int)))).size ≤ 21 at y2
          rw [HS1.out] at y1 RW
          rw [HS2.out] at y2 RW
          have ad1 := add_run ⟨#[45]⟩ s1 (by omega)
          have ad2 := add_run (⟨#[45]⟩ ++ s1) ⟨#[112]⟩ (by rw [ByteArray.size_append]; have : (⟨#[112]⟩ : ByteArray).size = 1 := rfl; omega)
          have ad3 := add_run (⟨#[45]⟩ ++ s1 ++ ⟨#[112]⟩) s2 (by rw [ByteArray.size_append, ByteArray.size_append]; have : (⟨#[112]⟩ : ByteArray).size = 1 := rfl; omega)
          have HD : Hid (∀ w : World, Calls Tryz.prog 19 #[.int .u64 (q : Int)] w fun e w' => e = .returned (.string s1) ∧ Below w.heap.size w w') := by
            have := digits_any q (by omega)
            rw [HS1.out] at this
            exact this
          have HG : Hid (∀ w : World, Calls Tryz.prog 17 #[.int .i64 (L + (k : Int))] w fun e w' => e = .returned (.string s2) ∧ Below w.heap.size w w') := by
            have := signed_any (L + (k : Int)) (by omega) (by omega)
            rw [HS2.out] at this
            exact this
          clear y1 y2 hv ho hq0
          go_wp2_with fail
          refine (HD.out _).mono ?_
          rintro e w1 ⟨rfl, hb1⟩
          go_wp2_with fail
          refine (HG.out _).mono ?_
          rintro e w2 ⟨rfl, hb2⟩
          go_wp2_with fail
          go_ret
          exact ⟨ret_str (by rw [RV.out, RW.out]), Below.andThen (Below.andThen (below_drewN (Below.refl _ _) _) hb1) hb2⟩
        · have b4 : ((q : Int) % 2 == 0) = true := by simp; omega
          have hw : IntKind.u64.wrap ((q : Int) / 2) = (q : Int) / 2 := u64_wrap_id _ (by omega) (by omega)
          have HV : Hid (M = q / 2 * 2 ^ (k + 1)) := by
            show M = _
            rw [hv, Nat.pow_succ, Nat.mul_comm (2 ^ k) 2, ← Nat.mul_assoc, show q / 2 * 2 = q from by omega]
          clear hv
          go_wp2_with fail
          exact ⟨⟨k + 1, q / 2, congrArg (Value.int .u64) (by omega), congrArg (Value.int .i64) (by omega), HV.out⟩, by simp [intOf]; omega⟩
  · have sg : ((N : Int) / 2147483648 == 1) = false := by simp; omega
    have z0 : (⟨#[]⟩ : ByteArray).size = 0 := rfl
    by_cases cE : E = 255
    · by_cases cF : F = 0
      · have RV : Hid (str (rf32 zs) = ⟨#[]⟩ ++ ⟨#[105, 110, 102]⟩) := by
          show _ = _
          rw [RF, if_neg (show ¬ 2139095040 < N % 2147483648 by omega), if_neg (show ¬ N / 2147483648 = 1 by omega), show N % 2147483648 = 2139095040 from by omega]
          rfl
        have b1 : (E == 255) = true := by simp; omega
        have b2 : (F == 0) = true := by simp; omega
        have ad := add_run ⟨#[]⟩ ⟨#[105, 110, 102]⟩ (by decide)
        clear RF eF eE cE cF hk
        go_enter Tryz.func20, Tryz.ntmps20
        go_wp2_with fail
        refine (refNumber_any _ _ _ zs _ hr (by decide)).mono ?_
        rw [HNN.out]
        rintro e w ⟨rfl, rfl⟩
        go_wp2_with fail
        refine (form32 _).mono ?_
        rintro e w ⟨rfl, rfl⟩
        go_wp2_with fail
        go_quiet (fail)
        go_wp2_with fail
        go_ret
        exact ⟨ret_str RV.out.symm, (below_drewN (Below.refl _ _) _)⟩
      · have RV : Hid (str (rf32 zs) = ⟨#[110, 97, 110, 58]⟩ ++ strOfNums (hexR (N : Int) 8)) := by
          show _ = _
          rw [RF, if_pos (show 2139095040 < N % 2147483648 by omega), ← str_append]
          rfl
        have b1 : (E == 255) = true := by simp; omega
        have b2 : (F == 0) = false := by simp; omega
        obtain ⟨s1, HS⟩ : ∃ s, Hid (strOfNums (hexR (N : Int) 8) = s) := ⟨_, rfl⟩
        have zs1 : s1.size = 8 := by rw [← HS.out, strOfNums_size, hexR_len]
        rw [HS.out] at RV
        have ad := add_run ⟨#[110, 97, 110, 58]⟩ s1 (by have : (⟨#[110, 97, 110, 58]⟩ : ByteArray).size = 4 := rfl; omega)
        clear RF eF eE cE cF hk zs1
        go_enter Tryz.func20, Tryz.ntmps20
        go_wp2_with fail
        refine (refNumber_any _ _ _ zs _ hr (by decide)).mono ?_
        rw [HNN.out]
        rintro e w ⟨rfl, rfl⟩
        go_wp2_with fail
        refine (form32 _).mono ?_
        rintro e w ⟨rfl, rfl⟩
        go_wp2_with fail
        go_quiet (fail)
        go_wp2_with fail
        refine (refHex_any (N : Int) 8 _ hn0 (by omega) (by decide)).mono ?_
        rw [HS.out]
        rintro e w1 ⟨rfl, hb1⟩
        go_wp2_with fail
        go_ret
        exact ⟨ret_str RV.out.symm, Below.andThen (below_drewN (Below.refl _ _) _) hb1⟩
    have b1 : (E == 255) = false := by simp; omega
    have hnan : ¬ 2139095040 < N % 2147483648 := by omega
    by_cases c0 : E = 0 ∧ F = 0
    · have RV : Hid (str (rf32 zs) = ⟨#[]⟩ ++ ⟨#[48, 112, 48]⟩) := by
        show _ = _
        rw [RF, if_neg hnan, if_neg (show ¬ N / 2147483648 = 1 by omega), show N % 2147483648 = 0 from by omega]
        rfl
      have ad := add_run ⟨#[]⟩ ⟨#[48, 112, 48]⟩ (by decide)
      obtain ⟨hE, hF⟩ := c0
      clear RF eF eE cE hk hnan HE HF w2 b1 hF1 hE1 hF0 hE0
      subst hE
      subst hF
      go_enter Tryz.func20, Tryz.ntmps20
      go_wp2_with fail
      refine (refNumber_any _ _ _ zs _ hr (by decide)).mono ?_
      rw [HNN.out]
      rintro e w ⟨rfl, rfl⟩
      go_wp2_with fail
      refine (form32 _).mono ?_
      rintro e w ⟨rfl, rfl⟩
      go_wp2_with fail
      go_quiet (fail)
      go_wp2_with fail
      go_ret
      exact ⟨ret_str RV.out.symm, (below_drewN (Below.refl _ _) _)⟩
    obtain ⟨M, HM⟩ : ∃ M : Nat, Hid ((if E = 0 then F else F + 8388608) = (M : Int)) := ⟨(if E = 0 then F else F + 8388608).toNat, by show _ = _; rw [Int.toNat_of_nonneg]; split <;> omega⟩
    obtain ⟨L, HL⟩ : ∃ L : Int, Hid ((if E = 0 then (-149 : Int) else -149 + E - 1) = L) := ⟨_, rfl⟩
    have eM := HM.out
    have eL := HL.out
    have hM0 : M ≠ 0 := by split at eM <;> omega
    have hM1 : M < 18446744073709551616 := by split at eM <;> omega
    have hL0 : -149 ≤ L := by split at eL <;> omega
    have hL1 : L ≤ 3000 := by split at eL <;> omega
    have RV : Hid (rf32 zs = oddS M L) := by
      show _ = _
      rw [RF, if_neg hnan, if_neg (show ¬ N / 2147483648 = 1 by omega)]
      unfold sizeS32
      rw [if_neg (show ¬ N % 2147483648 = 2139095040 by omega), if_neg (show ¬ N % 2147483648 = 0 by omega)]
      by_cases h0 : E = 0
      · rw [if_pos h0] at eM eL
        rw [if_pos (show N % 2147483648 < 8388608 by omega), show N % 2147483648 = M from by omega, eL]
      · rw [if_neg h0] at eM eL
        rw [if_neg (show ¬ N % 2147483648 < 8388608 by omega), show 8388608 + N % 2147483648 % 8388608 = M from by omega, show -149 + ((N % 2147483648 : Nat) : Int) / 8388608 - 1 = L from by omega]
    clear RF hnan eF eE hk cE
    by_cases h0 : E = 0
    · have hm : F = (M : Int) := by rw [if_pos h0] at eM; exact eM
      have hl : L = -149 := by rw [if_pos h0] at eL; exact eL.symm
      have b2 : ((M : Int) == 0) = false := by simp; omega
      clear eM eL HM HL c0 HF HE w2 b1 hF1 hE1 hF0 hE0
      subst hm
      subst hl
      subst h0
      go_enter Tryz.func20, Tryz.ntmps20
      go_wp2_with fail
      refine (refNumber_any _ _ _ zs _ hr (by decide)).mono ?_
      rw [HNN.out]
      rintro e w ⟨rfl, rfl⟩
      go_wp2_with fail
      refine (form32 _).mono ?_
      rintro e w ⟨rfl, rfl⟩
      go_wp2_with fail
      go_quiet (fail)
      go_wp2_with fail
      go_loop [8, 9] (fun l f => ∃ k q : Nat, f = .int .u64 (q : Int) ∧ l = .int .i64 ((-149) + (k : Int)) ∧ M = q * 2 ^ k) (fun _ f => (intOf f).toNat)
      case atStart => exact ⟨0, M, rfl, by rw [Int.natCast_zero, Int.add_zero], by simp⟩
      case round =>
        obtain ⟨k, q, rfl, rfl, hv⟩ := hrel
        obtain ⟨hk, hq0, hq1⟩ := half_bound M q k hM0 hM1 hv
        have hkI : (k : Int) < 64 := by omega
        have tm : (q : Int).tmod 2 = (q : Int) % 2 := Int.tmod_eq_emod_of_nonneg (by omega)
        by_cases ho : q % 2 = 1
        · have b4 : ((q : Int) % 2 == 0) = false := by simp; omega
          have RW : Hid (str (oddS M (-149)) = ⟨#[]⟩ ++ str (Lib.decDigits q) ++ ⟨#[112]⟩ ++ str (Lib.itoa ((-149) + (k : Int)))) := by
            show _ = _
            rw [oddS_of M q k (-149) hM0 hM1 hv ho]
            exact (str5 [] _ _ _).symm
          have y1 := dec_len q (by omega)
          have y2 := itoa_len ((-149) + (k : Int)) (by omega) (by omega)
          obtain ⟨s1, HS1⟩ : ∃ s, Hid (str (Lib.decDigits q) = s) := ⟨_, rfl⟩
          obtain ⟨s2, HS2⟩ : ∃ s, Hid (str (Lib.itoa ((-149) + (k : Int))) = s) := ⟨_, rfl⟩
          change (str (Lib.decDigits q)).size ≤ 20 at y1
          change (str (Lib.itoa ((-149) + (k : Int)))).size ≤ 21 at y2
          rw [HS1.out] at y1 RW
          rw [HS2.out] at y2 RW
          have ad1 := add_run ⟨#[]⟩ s1 (by omega)
          have ad2 := add_run (⟨#[]⟩ ++ s1) ⟨#[112]⟩ (by rw [ByteArray.size_append]; have : (⟨#[112]⟩ : ByteArray).size = 1 := rfl; omega)
          have ad3 := add_run (⟨#[]⟩ ++ s1 ++ ⟨#[112]⟩) s2 (by rw [ByteArray.size_append, ByteArray.size_append]; have : (⟨#[112]⟩ : ByteArray).size = 1 := rfl; omega)
          have HD : Hid (∀ w : World, Calls Tryz.prog 19 #[.int .u64 (q : Int)] w fun e w' => e = .returned (.string s1) ∧ Below w.heap.size w w') := by
            have := digits_any q (by omega)
            rw [HS1.out] at this
            exact this
          have HG : Hid (∀ w : World, Calls Tryz.prog 17 #[.int .i64 ((-149) + (k : Int))] w fun e w' => e = .returned (.string s2) ∧ Below w.heap.size w w') := by
            have := signed_any ((-149) + (k : Int)) (by omega) (by omega)
            rw [HS2.out] at this
            exact this
          clear y1 y2 hv ho hq0
          go_wp2_with fail
          refine (HD.out _).mono ?_
          rintro e w1 ⟨rfl, hb1⟩
          go_wp2_with fail
          refine (HG.out _).mono ?_
          rintro e w2 ⟨rfl, hb2⟩
          go_wp2_with fail
          go_ret
          exact ⟨ret_str (by rw [RV.out, RW.out]), Below.andThen (Below.andThen (below_drewN (Below.refl _ _) _) hb1) hb2⟩
        · have b4 : ((q : Int) % 2 == 0) = true := by simp; omega
          have hw : IntKind.u64.wrap ((q : Int) / 2) = (q : Int) / 2 := u64_wrap_id _ (by omega) (by omega)
          have HV : Hid (M = q / 2 * 2 ^ (k + 1)) := by
            show M = _
            rw [hv, Nat.pow_succ, Nat.mul_comm (2 ^ k) 2, ← Nat.mul_assoc, show q / 2 * 2 = q from by omega]
          clear hv
          go_wp2_with fail
          exact ⟨⟨k + 1, q / 2, congrArg (Value.int .u64) (by omega), congrArg (Value.int .i64) (by omega), HV.out⟩, by simp [intOf]; omega⟩
    · have hm : F + 8388608 = (M : Int) := by rw [if_neg h0] at eM; exact eM
      have hl : wrap64 (wrap64 (-149 + E) - 1) = L := by rw [if_neg h0] at eL; simp only [wrap64]; omega
      have hwm : IntKind.u64.wrap (M : Int) = (M : Int) := u64_wrap_id _ (by omega) (by omega)
      have hl2 : -149 + E - 1 = L := by rw [if_neg h0] at eL; exact eL
      have b2 : ((M : Int) == 0) = false := by simp; omega
      have b3 : (0 : Int) < E := by omega
      clear eM eL HM HL h0 c0 HF
      go_enter Tryz.func20, Tryz.ntmps20
      go_wp2_with fail
      refine (refNumber_any _ _ _ zs _ hr (by decide)).mono ?_
      rw [HNN.out]
      rintro e w ⟨rfl, rfl⟩
      go_wp2_with fail
      refine (form32 _).mono ?_
      rintro e w ⟨rfl, rfl⟩
      go_wp2_with fail
      go_quiet (fail)
      go_wp2_with fail
      go_loop [8, 9] (fun l f => ∃ k q : Nat, f = .int .u64 (q : Int) ∧ l = .int .i64 (L + (k : Int)) ∧ M = q * 2 ^ k) (fun _ f => (intOf f).toNat)
      case atStart => exact ⟨0, M, rfl, by rw [Int.natCast_zero, Int.add_zero], by simp⟩
      case round =>
        obtain ⟨k, q, rfl, rfl, hv⟩ := hrel
        obtain ⟨hk, hq0, hq1⟩ := half_bound M q k hM0 hM1 hv
        have hkI : (k : Int) < 64 := by omega
        have tm : (q : Int).tmod 2 = (q : Int) % 2 := Int.tmod_eq_emod_of_nonneg (by omega)
        by_cases ho : q % 2 = 1
        · have b4 : ((q : Int) % 2 == 0) = false := by simp; omega
          have RW : Hid (str (oddS M L) = ⟨#[]⟩ ++ str (Lib.decDigits q) ++ ⟨#[112]⟩ ++ str (Lib.itoa (L + (k : Int)))) := by
            show _ = _
            rw [oddS_of M q k L hM0 hM1 hv ho]
            exact (str5 [] _ _ _).symm
          have y1 := dec_len q (by omega)
          have y2 := itoa_len (L + (k : Int)) (by omega) (by omega)
          obtain ⟨s1, HS1⟩ : ∃ s, Hid (str (Lib.decDigits q) = s) := ⟨_, rfl⟩
          obtain ⟨s2, HS2⟩ : ∃ s, Hid (str (Lib.itoa (L + (k : Int))) = s) := ⟨_, rfl⟩
          change (str (Lib.decDigits q)).size ≤ 20 at y1
          change (str (Lib.itoa (L + (k : Int)))).size ≤ 21 at y2
          rw [HS1.out] at y1 RW
          rw [HS2.out] at y2 RW
          have ad1 := add_run ⟨#[]⟩ s1 (by omega)
          have ad2 := add_run (⟨#[]⟩ ++ s1) ⟨#[112]⟩ (by rw [ByteArray.size_append]; have : (⟨#[112]⟩ : ByteArray).size = 1 := rfl; omega)
          have ad3 := add_run (⟨#[]⟩ ++ s1 ++ ⟨#[112]⟩) s2 (by rw [ByteArray.size_append, ByteArray.size_append]; have : (⟨#[112]⟩ : ByteArray).size = 1 := rfl; omega)
          have HD : Hid (∀ w : World, Calls Tryz.prog 19 #[.int .u64 (q : Int)] w fun e w' => e = .returned (.string s1) ∧ Below w.heap.size w w') := by
            have := digits_any q (by omega)
            rw [HS1.out] at this
            exact this
          have HG : Hid (∀ w : World, Calls Tryz.prog 17 #[.int .i64 (L + (k : Int))] w fun e w' => e = .returned (.string s2) ∧ Below w.heap.size w w') := by
            have := signed_any (L + (k : Int)) (by omega) (by omega)
            rw [HS2.out] at this
            exact this
          clear y1 y2 hv ho hq0
          go_wp2_with fail
          refine (HD.out _).mono ?_
          rintro e w1 ⟨rfl, hb1⟩
          go_wp2_with fail
          refine (HG.out _).mono ?_
          rintro e w2 ⟨rfl, hb2⟩
          go_wp2_with fail
          go_ret
          exact ⟨ret_str (by rw [RV.out, RW.out]), Below.andThen (Below.andThen (below_drewN (Below.refl _ _) _) hb1) hb2⟩
        · have b4 : ((q : Int) % 2 == 0) = true := by simp; omega
          have hw : IntKind.u64.wrap ((q : Int) / 2) = (q : Int) / 2 := u64_wrap_id _ (by omega) (by omega)
          have HV : Hid (M = q / 2 * 2 ^ (k + 1)) := by
            show M = _
            rw [hv, Nat.pow_succ, Nat.mul_comm (2 ^ k) 2, ← Nat.mul_assoc, show q / 2 * 2 = q from by omega]
          clear hv
          go_wp2_with fail
          exact ⟨⟨k + 1, q / 2, congrArg (Value.int .u64) (by omega), congrArg (Value.int .i64) (by omega), HV.out⟩, by simp [intOf]; omega⟩
#print axioms refFloat32
end Go.Proofs.YthoaandafmmojaaGreatDoor
