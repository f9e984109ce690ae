/-
  The walks of the document's nan, ordered and key.
-/
import Derived.Test.YtajllkkbgpijiaaGreatDoorRef1
import Derived.Test.YtajllkkbgpijiaaGreatDoorCompW
import Derived.Deep.RegionWith
namespace Go.Proofs.YtajllkkbgpijiaaGreatDoor.Ty
open Pl Go.RowKit

theorem and63 (n : Int) (h0 : 0 ≤ n) (h1 : n < 18446744073709551616) : bits .and .u64 n 9223372036854775807 = n % 9223372036854775808 := by
  obtain ⟨m, rfl⟩ := Int.eq_ofNat_of_zero_le h0
  have h := u64_and_nat m 9223372036854775807 (by omega) (by decide)
  rw [show ((9223372036854775807 : Nat) : Int) = (9223372036854775807 : Int) from rfl] at h
  rw [h, show m &&& 9223372036854775807 = m % 9223372036854775808 from Nat.and_two_pow_sub_one_eq_mod m 63]; omega
theorem and31' (n : Int) (h0 : 0 ≤ n) (h1 : n < 18446744073709551616) : bits .and .u64 n 2147483647 = n % 2147483648 := by
  obtain ⟨m, rfl⟩ := Int.eq_ofNat_of_zero_le h0
  have h := u64_and_nat m 2147483647 (by omega) (by decide)
  rw [show ((2147483647 : Nat) : Int) = (2147483647 : Int) from rfl] at h
  rw [h, show m &&& 2147483647 = m % 2147483648 from Nat.and_two_pow_sub_one_eq_mod m 31]; omega

set_option maxHeartbeats 1000000 in
set_option maxRecDepth 100000 in
theorem nan_any (t : Int) (a : Option Addr) (len cap : Nat) (zs : List Int) (w : World) (hr : Row w a len zs) (h8 : len ≤ 8) :
    Calls Tryz.prog 72 #[.int .u8 t, .slice a len cap] w fun e w' => e = .returned (.bool (nanB t zs)) ∧ w' = w := by
  have hn := num_lt64 zs hr.oct (by rw [hr.size]; exact h8)
  obtain ⟨n, HN⟩ : ∃ n, Hid (num zs = n) := ⟨_, rfl⟩
  rw [HN.out] at hn
  have a1 := and31' n hn.1 hn.2
  have a2 := and63 n hn.1 hn.2
  have HB : Hid (nanB t zs = ((t == 8 && decide (2139095040 < n % 2147483648)) || (t == 17 && decide (9218868437227405312 < n % 9223372036854775808)))) := by show nanB t zs = _; unfold nanB; rw [HN.out]
  by_cases h1 : t = 8
  · subst h1
    go_enter Tryz.func72, Tryz.ntmps72
    go_wp2_with fail
    refine (refNumber_any _ _ _ zs _ hr h8).mono ?_
    rw [HN.out]
    rintro e w ⟨rfl, rfl⟩
    by_cases c1 : 2139095040 < n % 2147483648
    · go_wp2_with fail
      go_ret
      exact ⟨ret_bool (by rw [HB.out]; simp <;> omega), rfl⟩
    · go_wp2_with fail
      go_ret
      exact ⟨ret_bool (by rw [HB.out]; simp <;> omega), rfl⟩
  have b1 : (t == 8) = false := by simp [h1]
  by_cases h2 : t = 17
  · subst h2
    go_enter Tryz.func72, Tryz.ntmps72
    go_wp2_with fail
    refine (refNumber_any _ _ _ zs _ hr h8).mono ?_
    rw [HN.out]
    rintro e w ⟨rfl, rfl⟩
    by_cases c1 : 9218868437227405312 < n % 9223372036854775808
    · go_wp2_with fail
      go_ret
      exact ⟨ret_bool (by rw [HB.out]; simp <;> omega), rfl⟩
    · go_wp2_with fail
      go_ret
      exact ⟨ret_bool (by rw [HB.out]; simp <;> omega), rfl⟩
  have b2 : (t == 17) = false := by simp [h2]
  clear h1 h2
  go_enter Tryz.func72, Tryz.ntmps72
  go_wp2_with fail
  refine (refNumber_any _ _ _ zs _ hr h8).mono ?_
  rw [HN.out]
  rintro e w ⟨rfl, rfl⟩
  go_wp2_with fail
  go_ret
  exact ⟨ret_bool (by rw [HB.out, b1, b2]; rfl), rfl⟩

theorem cb_kind (t : Int) (zs : List Int) (h : cbN t zs = 0) : kindN t ≠ 0 := fun h0 => by unfold cbN at h; rw [if_pos h0] at h; omega

set_option maxHeartbeats 1000000 in
set_option maxRecDepth 100000 in
theorem ordered_any (t : Int) (a : Option Addr) (len cap : Nat) (zs : List Int) (w : World) (hr : Row w a len zs) (hlc : len ≤ cap) (hcm : cap ≤ maxLen) :
    Calls Tryz.prog 71 #[.int .u8 t, .slice a len cap] w fun e w' => e = .returned (.bool (placeB t zs)) ∧ w' = w := by
  have hle := let_is t
  by_cases c0 : cbN t zs = 0
  rotate_left
  · have bc : (cbN t zs == 0) = false := by simp [c0]
    have H : Hid (placeB t zs = false) := by show placeB t zs = false; simp [placeB, c0]
    clear c0 hle
    go_enter Tryz.func71, Tryz.ntmps71
    go_wp2_with fail
    refine (plain_any _ _ _ _ zs _ hr hlc hcm).mono ?_
    rintro e w ⟨rfl, rfl⟩
    go_wp2_with fail
    go_ret
    exact ⟨ret_bool H.out.symm, rfl⟩
  have bc : (cbN t zs == 0) = true := by simp [c0]
  by_cases k : kindN t = 6 ∨ kindN t = 7
  · have bl : (letN t != 115) = false := by simp [hle.2.2.2.2.2.1.2 k]
    have H : Hid (placeB t zs = false) := by
      show placeB t zs = false
      rcases k with k | k <;> simp [placeB, k]
    clear c0 hle k
    go_enter Tryz.func71, Tryz.ntmps71
    go_wp2_with fail
    refine (plain_any _ _ _ _ zs _ hr hlc hcm).mono ?_
    rintro e w ⟨rfl, rfl⟩
    go_wp2_with fail
    refine (refKind_any _ _).mono ?_
    rintro e w ⟨rfl, rfl⟩
    go_wp2_with fail
    go_ret
    exact ⟨ret_bool H.out.symm, rfl⟩
  have bl : (letN t != 115) = true := by simp; exact fun h => k (hle.2.2.2.2.2.1.1 h)
  have hk0 := cb_kind t zs c0
  have hkb := kind_bd t
  have hsz := (kind_size t).2.2.2.2.2.2 (by omega) (by omega)
  have hl := cb_len t zs c0 hsz
  have hsb := size_bd t
  have h8 : len ≤ 8 := by rw [hr.size] at hl; omega
  have H : Hid (placeB t zs = !nanB t zs) := by
    show placeB t zs = !nanB t zs
    have k6 : kindN t ≠ 6 := fun h => k (.inl h)
    have k7 : kindN t ≠ 7 := fun h => k (.inr h)
    simp [placeB, c0, k6, k7]
  clear c0 hle k hk0 hkb hsz hl hsb
  go_enter Tryz.func71, Tryz.ntmps71
  go_wp2_with fail
  refine (plain_any _ _ _ _ zs _ hr hlc hcm).mono ?_
  rintro e w ⟨rfl, rfl⟩
  go_wp2_with fail
  refine (refKind_any _ _).mono ?_
  rintro e w ⟨rfl, rfl⟩
  go_wp2_with fail
  refine (nan_any _ _ _ _ zs _ hr h8).mono ?_
  rintro e w ⟨rfl, rfl⟩
  go_wp2_with fail
  go_ret
  exact ⟨ret_bool H.out.symm, rfl⟩

/-- The document's key of a value: its place, from 0 on. -/
def keyN (t : Int) (zs : List Int) : Int := ordK t zs + (if kindN t = 2 ∨ kindN t = 4 then 2 ^ (8 * zs.length - 1) else 0)

theorem xor_top (k n : Nat) (h : n < 2 ^ k) : n ^^^ 2 ^ k = 2 ^ k + n := by
  apply Nat.eq_of_testBit_eq
  intro j
  rw [Nat.testBit_xor, Nat.testBit_two_pow]
  rcases Nat.lt_trichotomy j k with hj | hj | hj
  · rw [Nat.testBit_two_pow_add_gt hj, decide_eq_false (by omega)]
    cases n.testBit j <;> rfl
  · subst hj
    rw [Nat.testBit_two_pow_add_eq, decide_eq_true rfl]
    cases n.testBit j <;> rfl
  · have h1 : n.testBit j = false := Nat.testBit_lt_two_pow (Nat.lt_trans h (Nat.pow_lt_pow_right (by omega) hj))
    have h2 : (2 ^ k + n).testBit j = false := by
      refine Nat.testBit_lt_two_pow ?_
      have : 2 ^ (k + 1) ≤ 2 ^ j := Nat.pow_le_pow_right (by omega) hj
      rw [Nat.pow_succ] at this
      omega
    rw [h1, h2, decide_eq_false (by omega)]
    rfl
theorem xor_top' (k n : Nat) (h : n < 2 ^ k) : (2 ^ k + n) ^^^ 2 ^ k = n := by
  rw [← xor_top k n h, Nat.xor_assoc, Nat.xor_self, Nat.xor_zero]

theorem xor_key (len : Nat) (n : Int) (h1 : 1 ≤ len) (h8 : len ≤ 8) (h0 : 0 ≤ n) (hn : n < 2 ^ (8 * len)) : bits .xor .u64 n (2 ^ (8 * len - 1)) = sgN len n + 2 ^ (8 * len - 1) := by
  obtain ⟨m, rfl⟩ := Int.eq_ofNat_of_zero_le h0
  obtain ⟨k, hk⟩ : ∃ k, 8 * len = k + 1 := ⟨8 * len - 1, by omega⟩
  have hp : (2 : Nat) ^ k ≤ 9223372036854775808 := Nat.pow_le_pow_right (by omega) (by omega : k ≤ 63)
  have x1 := xor_top k
  have x2 := xor_top' k
  have e1 : (2 : Int) ^ k = ((2 ^ k : Nat) : Int) := by push_cast; rfl
  have e2 : (2 : Int) ^ (k + 1) = 2 * ((2 ^ k : Nat) : Int) := by rw [Int.pow_succ, Int.mul_comm, e1]
  unfold sgN
  rw [hk, e2] at hn
  rw [hk, Nat.add_sub_cancel, e1, e2]
  clear hk e1 e2 h1 h8
  generalize 2 ^ k = P at *
  rw [u64_xor_nat m P (by omega) (by omega)]
  by_cases c : m < P
  · rw [x1 m c, if_pos (by omega)]; omega
  · obtain ⟨q, rfl⟩ : ∃ q, m = P + q := ⟨m - P, by omega⟩
    rw [x2 q (by omega), if_neg (by omega)]; omega

theorem list6 (zs : List Int) (h : zs.length = 6) : ∃ a b c d e f, zs = [a, b, c, d, e, f] := by
  match zs, h with
  | [a, b, c, d, e, f], _ => exact ⟨a, b, c, d, e, f, rfl⟩
theorem time_val (zs : List Int) (h : zs.length = 6) : num zs = num (zs.drop 4) * 4294967296 + num (zs.take 4) := by
  obtain ⟨a, b, c, d, e, f, rfl⟩ := list6 zs h
  simp [num]
  omega

theorem pow_lt64 (k : Nat) (h : k ≤ 63) : (2 : Int) ^ k ≤ 9223372036854775808 ∧ (1 : Int) ≤ 2 ^ k := by
  have h1 : (2 : Nat) ^ k ≤ 2 ^ 63 := Nat.pow_le_pow_right (by omega) h
  have h2 : (1 : Nat) ≤ 2 ^ k := Nat.one_le_two_pow
  have e : (2 : Int) ^ k = ((2 ^ k : Nat) : Int) := by push_cast; rfl
  rw [e]
  have : (2 : Nat) ^ 63 = 9223372036854775808 := rfl
  omega

set_option maxHeartbeats 2000000 in
set_option maxRecDepth 100000 in
theorem key_any (t : Int) (a : Option Addr) (len cap : Nat) (zs : List Int) (w : World) (hr : Row w a len zs) (hp : placeB t zs = true) (hlc : len ≤ cap) (hcm : cap ≤ maxLen) :
    Calls Tryz.prog 73 #[.int .u8 t, .slice a len cap] w fun e w' => e = .returned (.int .u64 (keyN t zs)) ∧ Below w.heap.size w w' := by
  have hle := let_is t
  obtain ⟨c0, _, _, _, k1, k5, hl, l1, l8⟩ := place_facts t zs hp
  have hs := hr.size
  rw [hs] at l1 l8
  have hb := num_bd zs hr.oct
  rw [hs] at hb
  unfold maxLen at hcm
  obtain ⟨n, HN⟩ : ∃ n, Hid (num zs = n) := ⟨_, rfl⟩
  rw [HN.out] at hb
  have hi1 : (1 : Int) ≤ (len : Int) := by omega
  have hi8 : (len : Int) ≤ 8 := by omega
  by_cases k2 : kindN t = 2
  · have b2 : (letN t == 105) = true := by simp [hle.2.1.2 k2]
    have HK : Hid (keyN t zs = bits .xor .u64 n (2 ^ (8 * len - 1))) := by
      show keyN t zs = _
      unfold keyN ordK
      rw [if_pos k2, if_pos (.inl k2), HN.out, hs, xor_key len n l1 l8 hb.1 hb.2]
    have p := pow_lt64 (8 * len - 1) (by omega)
    clear k1 k5 k2 hle hl hs hb c0 hp
    go_enter Tryz.func73, Tryz.ntmps73
    go_wp2_with fail
    refine (refNumber_any _ _ _ zs _ hr l8).mono ?_
    rw [HN.out]
    rintro e w ⟨rfl, rfl⟩
    go_wp2_with fail
    refine (refKind_any _ _).mono ?_
    rintro e w ⟨rfl, rfl⟩
    go_wp2_with fail
    go_ret
    exact ⟨ret_int HK.out.symm, Below.refl _ _⟩
  have b2 : (letN t == 105) = false := by simp; exact fun h => k2 (hle.2.1.1 h)
  by_cases k4 : kindN t = 4
  · have b4 : (letN t == 102) = true := by simp [hle.2.2.2.1.2 k4]
    have hf := float_types t k4
    have HK : Hid (keyN t zs = fkey (8 * len) n + 2 ^ (8 * len - 1)) := by
      show keyN t zs = _
      unfold keyN ordK
      rw [if_neg k2, if_pos k4, if_pos (.inr k4), HN.out, hs]
    have hlen : len = 4 ∨ len = 8 := by omega
    clear k1 k5 k2 hle hl hs c0 hp k4 hf
    rcases hlen with rfl | rfl
    · have hb1 : n < 4294967296 := hb.2
      by_cases c : n < 2147483648
      · have bq : (n / 2147483648 == 1) = false := by simp; omega
        have HF : Hid (keyN t zs = n + 2147483648) := by
          show keyN t zs = _
          rw [HK.out]; unfold fkey; rw [if_pos (by exact c)]; rfl
        have hb0 := hb.1
        clear hb
        go_enter Tryz.func73, Tryz.ntmps73
        go_wp2_with fail
        refine (refNumber_any _ _ _ zs _ hr l8).mono ?_
        rw [HN.out]
        rintro e w ⟨rfl, rfl⟩
        go_wp2_with fail
        refine (refKind_any _ _).mono ?_
        rintro e w ⟨rfl, rfl⟩
        go_wp2_with fail
        go_ret
        exact ⟨ret_int HF.out.symm, Below.refl _ _⟩
      · have bq : (n / 2147483648 == 1) = true := by simp; omega
        have HF : Hid (keyN t zs = 2147483647 - (n - 2147483648)) := by
          show keyN t zs = _
          rw [HK.out]; unfold fkey; rw [if_neg (by exact c)]; show -(n - 2147483648) - 1 + 2147483648 = _; omega
        have hb0 := hb.1
        clear hb
        go_enter Tryz.func73, Tryz.ntmps73
        go_wp2_with fail
        refine (refNumber_any _ _ _ zs _ hr l8).mono ?_
        rw [HN.out]
        rintro e w ⟨rfl, rfl⟩
        go_wp2_with fail
        refine (refKind_any _ _).mono ?_
        rintro e w ⟨rfl, rfl⟩
        go_wp2_with fail
        go_quiet (fail)
        go_wp2_with fail
        go_ret
        exact ⟨ret_int HF.out.symm, below_drewN (Below.refl _ _) _⟩
    · have hb1 : n < 18446744073709551616 := hb.2
      by_cases c : n < 9223372036854775808
      · have bq : (n / 9223372036854775808 == 1) = false := by simp; omega
        have HF : Hid (keyN t zs = n + 9223372036854775808) := by
          show keyN t zs = _
          rw [HK.out]; unfold fkey; rw [if_pos (by exact c)]; rfl
        have hb0 := hb.1
        clear hb HK
        go_enter Tryz.func73, Tryz.ntmps73
        go_wp2_with fail
        refine (refNumber_any _ _ _ zs _ hr l8).mono ?_
        rw [HN.out]
        rintro e w ⟨rfl, rfl⟩
        go_wp2_with fail
        refine (refKind_any _ _).mono ?_
        rintro e w ⟨rfl, rfl⟩
        go_wp2_with fail
        go_ret
        refine ⟨ret_int ?_, Below.refl _ _⟩
        exact HF.out.symm
      · have bq : (n / 9223372036854775808 == 1) = true := by simp; omega
        have HF : Hid (keyN t zs = 9223372036854775807 - (n - 9223372036854775808)) := by
          show keyN t zs = _
          rw [HK.out]; unfold fkey; rw [if_neg (by exact c)]; show -(n - 9223372036854775808) - 1 + 9223372036854775808 = _; omega
        have hb0 := hb.1
        clear hb HK
        go_enter Tryz.func73, Tryz.ntmps73
        go_wp2_with fail
        refine (refNumber_any _ _ _ zs _ hr l8).mono ?_
        rw [HN.out]
        rintro e w ⟨rfl, rfl⟩
        go_wp2_with fail
        refine (refKind_any _ _).mono ?_
        rintro e w ⟨rfl, rfl⟩
        go_wp2_with fail
        go_quiet (fail)
        go_wp2_with fail
        go_ret
        exact ⟨ret_int HF.out.symm, below_drewN (Below.refl _ _) _⟩
  have b4 : (letN t == 102) = false := by simp; exact fun h => k4 (hle.2.2.2.1.1 h)
  have HK : Hid (keyN t zs = n) := by
    show keyN t zs = _
    unfold keyN ordK
    rw [if_neg k2, if_neg k4, if_neg (by omega), HN.out, Int.add_zero]
  by_cases k5' : kindN t = 5
  · have b5 : (letN t == 116) = true := by simp [hle.2.2.2.2.1.2 k5']
    have e5 := (kind_size t).2.2.1 k5'
    have hl6 : len = 6 := by omega
    obtain ⟨b, off, ea, hc⟩ := hr.at_ (by omega)
    subst ea
    have h4 := hr.head 4 (by omega)
    have ht : Row w (some ⟨b, off + 4, none⟩) 2 (zs.drop 4) := by
      refine ⟨by rw [List.length_drop]; omega, hr.oct.drop 4, fun _ => ⟨b, off + 4, rfl, fun i hi => ?_⟩⟩
      rw [Nat.add_assoc, hc (4 + i) (by omega)]
      simp [List.getD_eq_getElem?_getD]
    subst hl6
    have HV : Hid (bits .or .u64 (num (zs.drop 4) * 4294967296) (num (zs.take 4)) = n) := by
      show _ = n
      rw [← HN.out]
      have q1 := num_bd _ h4.oct
      have q2 := num_bd _ ht.oct
      rw [h4.size] at q1
      rw [ht.size] at q2
      simp only [Nat.reduceMul, Int.reducePow] at q1 q2
      have hp64 : (2 : Int) ^ 64 = 18446744073709551616 := rfl
      rw [bits_join .u64 64 (by decide) wraps_u64 32 _ _ (by omega) (by show _ % 4294967296 = 0; omega) (by rw [hp64]; omega) q1.1 q1.2 (by rw [hp64]; omega)]
      exact (time_val zs hs).symm
    have q2 := num_bd _ ht.oct
    rw [ht.size] at q2
    simp only [Nat.reduceMul, Int.reducePow] at q2
    have q20 := q2.1
    have q21 := q2.2
    have hp4 : (4 : Int) ≤ (cap : Int) := by omega
    have hc4 : ¬ cap = 4 := by omega
    clear k1 k5 k2 hle hl hs c0 hp k4 k5' e5 hb hc q2
    go_enter Tryz.func73, Tryz.ntmps73
    go_wp2_with fail
    refine (refNumber_any _ _ _ zs _ hr l8).mono ?_
    rw [HN.out]
    rintro e w ⟨rfl, rfl⟩
    go_wp2_with fail
    refine (refKind_any _ _).mono ?_
    rintro e w ⟨rfl, rfl⟩
    go_wp2_with fail
    have tok1 : True := trivial
    have hd1 := ht.next (Below.drew (Below.refl _ _))
    have hd2 := h4.next (Below.drew (Below.refl _ _))
    go_region_held3 (fun _ => True) (trivial)
      (first | ((go_at_call 79; have _t := tok1; refine (refNumber_any (some ⟨b, off + 4, none⟩) 2 (cap - 4) (zs.drop 4) w.drew hd1 (by decide)).mono ?_; rintro e x ⟨rfl, rfl⟩; clear tok1 _t)) | ((go_at_call 79; refine (refNumber_any (some ⟨b, off, none⟩) 4 cap (zs.take 4) w.drew hd2 (by decide)).mono ?_; rintro e x ⟨rfl, rfl⟩)))
    go_wp2_with fail
    go_ret
    refine ⟨ret_int ?_, ?_⟩
    · rw [HK.out, u64_wrap_id _ (by omega) (by omega)]
      exact HV.out
    · repeat (first | exact Below.refl _ _ | refine Below.drew ?_)
  · have b5 : (letN t == 116) = false := by simp; exact fun h => k5' (hle.2.2.2.2.1.1 h)
    clear k1 k5 k2 hle hl hs c0 hp k4 k5' hb
    go_enter Tryz.func73, Tryz.ntmps73
    go_wp2_with fail
    refine (refNumber_any _ _ _ zs _ hr l8).mono ?_
    rw [HN.out]
    rintro e w ⟨rfl, rfl⟩
    go_wp2_with fail
    refine (refKind_any _ _).mono ?_
    rintro e w ⟨rfl, rfl⟩
    go_wp2_with fail
    go_ret
    exact ⟨ret_int HK.out.symm, Below.refl _ _⟩
end Go.Proofs.YtajllkkbgpijiaaGreatDoor.Ty
