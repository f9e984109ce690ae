/-
  The walk of the document's float: the text of a float of 4 or 8 bytes.
  The text of a value, plain; and the walks of textOf and Text.
  Plain facts for TypesWhole: the texts of numbers, and numbers with a sign, there and back.
-/
import Derived.Test.YtkfmmpolcjbnbaaGreatDoorDig
import Derived.Test.YtkfmmpolcjbnbaaGreatDoorVn5
import Derived.Test.YtkfmmpolcjbnbaaGreatDoorRd4
import Derived.Test.YtkfmmpolcjbnbaaGreatDoorCompW
import Derived.Test.YtkfmmpolcjbnbaaGreatDoorWhl1
namespace Go.Proofs.YtkfmmpolcjbnbaaGreatDoor
open Pl Go.RowKit

theorem form32 (w : World) : Calls Tryz.prog 65 #[.int .u8 8] w fun e w' => e = .returned (.tuple #[.int .i64 23, .int .i64 8, .int .i64 (-149)]) ∧ w' = w := by
  go_enter Tryz.func65, Tryz.ntmps65
  go_wp2
  go_ret3
  exact ⟨rfl, rfl⟩
theorem form64 (w : World) : Calls Tryz.prog 65 #[.int .u8 17] w fun e w' => e = .returned (.tuple #[.int .i64 52, .int .i64 11, .int .i64 (-1074)]) ∧ w' = w := by
  go_enter Tryz.func65, Tryz.ntmps65
  go_wp2
  go_ret3
  exact ⟨rfl, rfl⟩

theorem and_low (k : Nat) (n c : Int) (h0 : 0 ≤ n) (h1 : n < 18446744073709551616) (hk : k ≤ 63) (hc : c = 2 ^ k - 1) : bits .and .u64 n c = n % 2 ^ k := by
  obtain ⟨m, rfl⟩ := Int.eq_ofNat_of_zero_le h0
  have hp : (2 : Nat) ^ k ≤ 9223372036854775808 := Nat.pow_le_pow_right (by omega) hk
  have hp0 := Nat.two_pow_pos k
  have e : c = ((2 ^ k - 1 : Nat) : Int) := by
    rw [hc, Int.natCast_sub hp0, Int.natCast_pow]; rfl
  rw [e, u64_and_nat m (2 ^ k - 1) (by omega) (by omega), Nat.and_two_pow_sub_one_eq_mod, Int.natCast_emod, Int.natCast_pow]
  rfl

theorem half_bound (F f k : Nat) (h0 : F ≠ 0) (h : F < 18446744073709551616) (hv : F = f * 2 ^ k) : k < 64 ∧ f ≠ 0 ∧ f ≤ F := by
  have hf : f ≠ 0 := fun h => by rw [h, Nat.zero_mul] at hv; exact h0 hv
  have hp := Nat.two_pow_pos k
  have h1 : 2 ^ k ≤ F := by rw [hv]; exact Nat.le_mul_of_pos_left _ (by omega)
  have h2 : f ≤ F := by rw [hv]; exact Nat.le_mul_of_pos_right _ hp
  refine ⟨?_, hf, h2⟩
  rcases Nat.lt_or_ge k 64 with h | h
  · exact h
  · have : 2 ^ 64 ≤ 2 ^ k := Nat.pow_le_pow_right (by decide) h
    have : (2 : Nat) ^ 64 = 18446744073709551616 := rfl
    omega

theorem str5 (sg a c : List UInt8) (b : UInt8) : str sg ++ str a ++ ⟨#[b]⟩ ++ str c = str (sg ++ (a ++ b :: c)) := by
  show str sg ++ str a ++ str [b] ++ str c = _
  rw [str_append, str_append, str_append]
  simp

/-- What is told of a float of 8 bytes. -/
def rf64 (zs : List Int) : List UInt8 :=
  if 9218868437227405312 < (num zs).toNat % 9223372036854775808 then [110, 97, 110, 58] ++ byteL (hexL zs.reverse)
  else if (num zs).toNat / 9223372036854775808 = 1 then 45 :: sizeS ((num zs).toNat % 9223372036854775808) else sizeS ((num zs).toNat % 9223372036854775808)

/-- What is told of a float of 4 bytes. -/
def rf32 (zs : List Int) : List UInt8 :=
  if 2139095040 < (num zs).toNat % 2147483648 then [110, 97, 110, 58] ++ byteL (hexL zs.reverse)
  else if (num zs).toNat / 2147483648 = 1 then 45 :: sizeS32 ((num zs).toNat % 2147483648) else sizeS32 ((num zs).toNat % 2147483648)

end Go.Proofs.YtkfmmpolcjbnbaaGreatDoor
namespace Go.Proofs.YtkfmmpolcjbnbaaGreatDoor
open Pl Go.RowKit

/-- The text of a value. -/
def textN (t : Int) (zs : List Int) : List UInt8 :=
  if kindN t = 1 then (if zs.getD 0 0 = 1 then [116, 114, 117, 101] else [102, 97, 108, 115, 101])
  else if kindN t = 2 then Lib.itoa (sgN zs.length (num zs))
  else if kindN t = 3 then Lib.decDigits (num zs).toNat
  else if kindN t = 4 then (if t = 17 then rf64 zs else rf32 zs)
  else if kindN t = 5 then Lib.decDigits (num (zs.drop 4)).toNat ++ (58 :: Lib.decDigits (num (zs.take 4)).toNat)
  else if kindN t = 6 then byteL (34 :: quoL zs ++ [34]) else byteL (hexL zs)

/-- What Text tells: the text, and the error's number. -/
def txS (t : Int) (zs : List Int) : List UInt8 := if kindN t = 0 then [] else if cbN t zs ≠ 0 then [] else textN t zs
def txE (t : Int) (zs : List Int) : Int := if kindN t = 0 then 10 else if cbN t zs ≠ 0 then 11 else 0

theorem ret_si {a b : ByteArray} {k : IntKind} {c d : Int} (h : a = b) (h' : c = d) : Ending.returned (.tuple #[.string a, .int k c]) = .returned (.tuple #[.string b, .int k d]) := by rw [h, h']

/-- The text of a float by its word is the document's. -/
theorem fltS_rf (t : Int) (zs : List Int) (X : Nat) (ho : Oct zs) (hk : kindN t = 4) (hl : (zs.length : Int) = sizeN t) (h : FWord zs X) : fltS zs X = (if t = 17 then rf64 zs else rf32 zs) := by
  have hb := num_bd zs ho
  rcases float_types t hk with ⟨rfl, hs⟩ | ⟨rfl, hs⟩
  · rw [if_neg (by decide)]
    have hl4 : zs.length = 4 := by omega
    rw [hl4] at hb
    simp only [Nat.reduceMul, Int.reducePow] at hb
    rcases h with ⟨h8, _⟩ | ⟨_, hw⟩
    · omega
    by_cases hn : (num zs).toNat % 2147483648 ≤ 2139095040
    · obtain ⟨e1, e2, e3⟩ := wide_text _ X hw hn
      unfold fltS rf32
      rw [if_neg (show ¬ 9218868437227405312 < X % 9223372036854775808 by omega), if_neg (show ¬ 2139095040 < (num zs).toNat % 2147483648 by omega), e1, e3]
    · obtain ⟨R, rfl, hc⟩ := hw
      have hR : R = 9218868437227405313 := by omega
      subst hR
      unfold fltS rf32
      rw [if_pos (by omega), if_pos (by omega)]
  · rw [if_pos rfl]
    have hl8 : zs.length = 8 := by omega
    rcases h with ⟨_, rfl⟩ | ⟨h4, _⟩
    · unfold fltS rf64
      rfl
    · omega

theorem textN_kind (t : Int) (zs : List Int) :
    (kindN t = 1 → textN t zs = (if zs.getD 0 0 = 1 then [116, 114, 117, 101] else [102, 97, 108, 115, 101])) ∧ (kindN t = 2 → textN t zs = Lib.itoa (sgN zs.length (num zs))) ∧ (kindN t = 3 → textN t zs = Lib.decDigits (num zs).toNat) ∧
    (kindN t = 4 → textN t zs = (if t = 17 then rf64 zs else rf32 zs)) ∧ (kindN t = 5 → textN t zs = Lib.decDigits (num (zs.drop 4)).toNat ++ (58 :: Lib.decDigits (num (zs.take 4)).toNat)) ∧
    (kindN t = 6 → textN t zs = byteL (34 :: quoL zs ++ [34])) ∧ (kindN t = 7 → textN t zs = byteL (hexL zs)) := by
  refine ⟨fun h => ?_, fun h => ?_, fun h => ?_, fun h => ?_, fun h => ?_, fun h => ?_, fun h => ?_⟩
  all_goals unfold textN; simp [h]

theorem cb_zero_len (t : Int) (zs : List Int) (h : cbN t zs = 0) : kindN t ≠ 0 ∧ (zs.length : Int) ≤ 4096 ∧ (1 ≤ sizeN t → (zs.length : Int) = sizeN t) := by
  have h0 : kindN t ≠ 0 := fun h0 => by unfold cbN at h; rw [if_pos h0] at h; omega
  refine ⟨h0, ?_, cb_len t zs h⟩
  have hs := size_bd t
  unfold cbN at h
  rw [if_neg h0] at h
  by_cases h1 : (if sizeN t = 0 then 4096 else sizeN t) < (zs.length : Int)
  · rw [if_pos h1] at h; omega
  · split at h1 <;> omega

set_option maxHeartbeats 8000000 in
set_option maxRecDepth 100000 in
theorem textOf_any (t : Int) (a : Option Addr) (len cap : Nat) (zs : List Int) (w : World) (hr : Row w a len zs) (hT : Tabs w) (hc : cbN t zs = 0) (hlc : len ≤ cap) (hcm : cap ≤ maxLen) :
    Calls Tryz.prog 16 #[.int .u8 (kindN t), .slice a len cap] w fun e w' => e = .returned (.string (str (textN t zs))) ∧ Below w.heap.size w w' := by
  obtain ⟨k0, hl4, hls⟩ := cb_zero_len t zs hc
  have hs := hr.size
  have hkb := kind_bd t
  have hks := kind_size t
  have hsb := size_bd t
  have TN := textN_kind t zs
  have hb := num_bd zs hr.oct
  unfold maxLen at hcm
  have K : kindN t = 1 ∨ kindN t = 2 ∨ kindN t = 3 ∨ kindN t = 4 ∨ kindN t = 5 ∨ kindN t = 6 ∨ kindN t = 7 := by omega
  rcases K with k | k | k | k | k | k | k
  · have hl1 := hls (by omega)
    obtain ⟨b, off, rfl, hcell⟩ := hr.at_ (by omega)
    have hc0 := hcell 0 (by omega)
    rw [Nat.add_zero] at hc0
    have hp : (0 : Int) < (len : Int) := by omega
    have TV := TN.1 k
    rw [k]
    have HF : Hid (∀ v : Bool, str (Lib.formatBool v) = str (if v = true then [116, 114, 117, 101] else [102, 97, 108, 115, 101])) := fun v => by cases v <;> rfl
    by_cases hv : zs.getD 0 0 = 1
    · have HT : Hid (str (textN t zs) = str (Lib.formatBool true)) := by show _ = _; rw [TV, if_pos hv]; rfl
      rw [hv] at hc0
      clear TN hks hls hb hcell TV hr
      go_enter Tryz.func16, Tryz.ntmps16
      go_wp2_with fail
      refine (Tryz.strconv_FormatBool _ _).mono ?_
      rintro e x ⟨rfl, rfl⟩
      go_wp2_with fail
      go_ret
      exact ⟨ret_str HT.out.symm, Below.refl _ _⟩
    · have HT : Hid (str (textN t zs) = str (Lib.formatBool false)) := by show _ = _; rw [TV, if_neg hv]; rfl
      have hvb : (zs.getD 0 0 == 1) = false := by rw [beq_eq_false_iff_ne]; exact hv
      generalize zs.getD 0 0 = z at *
      clear TN hks hls hb hcell TV hr
      go_enter Tryz.func16, Tryz.ntmps16
      go_wp2_with fail
      refine (Tryz.strconv_FormatBool _ _).mono ?_
      rintro e x ⟨rfl, rfl⟩
      go_wp2_with fail
      go_ret
      exact ⟨ret_str HT.out.symm, Below.refl _ _⟩
  · have hl1 := hls (by omega)
    have HT : Hid (str (textN t zs) = ⟨(Lib.itoa (sgN len (num zs))).toArray⟩) := by show _ = _; rw [TN.2.1 k, hs]; rfl
    rw [k]
    rw [HT.out]
    exact textOf_signed a len cap zs w hr (by omega) (by omega) hT
  · have hl1 := hls (by omega)
    obtain ⟨N, HN⟩ : ∃ N : Nat, num zs = (N : Int) := Int.eq_ofNat_of_zero_le hb.1
    have HNN : Hid (num zs = (N : Int)) := HN
    have h64 := num_lt64 zs hr.oct (by omega)
    have HT : Hid (str (textN t zs) = ⟨(Lib.decDigits N).toArray⟩) := by show _ = _; rw [TN.2.2.1 k, HN, Int.toNat_natCast]; rfl
    have hN : N < 18446744073709551616 := by omega
    have h8 : len ≤ 8 := by omega
    rw [k, HT.out]
    clear TN hks hls hb hl1 k HN h64
    go_enter Tryz.func16, Tryz.ntmps16
    go_wp2_with fail
    refine (number_any _ _ _ zs _ hr h8).mono ?_
    rw [HNN.out]
    rintro e x ⟨rfl, rfl⟩
    go_wp2_with fail
    refine (decimalText_any N hN _ hT).mono ?_
    rintro e w1 ⟨rfl, hb1⟩
    go_wp2_with fail
    go_ret
    exact ⟨rfl, hb1⟩
  · have hl1 := hls (by have := hks.2.2.2.2.2.1 k; omega)
    have h48 := hks.2.2.2.2.2.1 k
    have HT : Hid (∀ X, FWord zs X → str (fltS zs X) = str (textN t zs)) := fun X hX => by rw [fltS_rf t zs X hr.oct k hl1 hX, TN.2.2.2.1 k]
    have hl48 : len = 4 ∨ len = 8 := by omega
    rw [k]
    clear TN hks hls hb hl1 k h48
    go_enter Tryz.func16, Tryz.ntmps16
    go_wp2_with fail
    refine (floatText_any _ _ _ zs _ hr hT hl48).mono ?_
    rintro e w1 ⟨X, hX, rfl, hb1⟩
    go_wp2_with fail
    go_ret
    exact ⟨ret_str (HT.out X hX), hb1⟩
  · have h6 := hks.2.2.1 k
    have hl1 := hls (by omega)
    have hl6 : len = 6 := by omega
    subst hl6
    obtain ⟨b, off, rfl, hcell⟩ := hr.at_ (by omega)
    have h4 := hr.head 4 (by omega)
    have ht : Row w (some ⟨b, off + 4, none⟩) 2 (zs.drop 4) := by
      refine ⟨by rw [List.length_drop]; omega, hr.oct.drop 4, fun _ => ⟨b, off + 4, rfl, fun i hi => ?_⟩⟩
      rw [Nat.add_assoc, hcell (4 + i) (by omega)]
      simp [List.getD_eq_getElem?_getD]
    have q1 := num_lt64 _ ht.oct (by rw [ht.size]; decide)
    have q2 := num_lt64 _ h4.oct (by rw [h4.size]; decide)
    obtain ⟨N1, HN1⟩ : ∃ N : Nat, Hid (num (zs.drop 4) = (N : Int)) := Int.eq_ofNat_of_zero_le q1.1
    obtain ⟨N2, HN2⟩ : ∃ N : Nat, Hid (num (zs.take 4) = (N : Int)) := Int.eq_ofNat_of_zero_le q2.1
    have hN1 : N1 < 18446744073709551616 := by have := HN1.out; omega
    have hN2 : N2 < 18446744073709551616 := by have := HN2.out; omega
    obtain ⟨s1, HS1⟩ : ∃ s, Hid ((⟨(Lib.decDigits N1).toArray⟩ : ByteArray) = s) := ⟨_, rfl⟩
    obtain ⟨s2, HS2⟩ : ∃ s, Hid ((⟨(Lib.decDigits N2).toArray⟩ : ByteArray) = s) := ⟨_, rfl⟩
    have z1 := dec_len N1 hN1
    have z2 := dec_len N2 hN2
    rw [HS1.out] at z1
    rw [HS2.out] at z2
    have ad1 := add_run s1 ⟨#[58]⟩ (by have : (⟨#[58]⟩ : ByteArray).size = 1 := rfl; omega)
    have ad2 := add_run (s1 ++ ⟨#[58]⟩) s2 (by rw [ByteArray.size_append]; have : (⟨#[58]⟩ : ByteArray).size = 1 := rfl; omega)
    have HT : Hid (s1 ++ ⟨#[58]⟩ ++ s2 = str (textN t zs)) := by
      show _ = _
      rw [TN.2.2.2.2.1 k, HN1.out, HN2.out, Int.toNat_natCast, Int.toNat_natCast, ← HS1.out, ← HS2.out, str3]
    have hp4 : (4 : Int) ≤ (cap : Int) := by omega
    have hc4 : ¬ cap = 4 := by omega
    rw [k]
    clear TN hks hls hb hl1 k hcell hr q1 q2 z1 z2 h6 hs hl4
    have tok1 : True := trivial
    have tok2 : True := trivial
    have hd1 := ht.next (Below.drew (Below.refl _ _))
    have T1 := hT.next (Below.drew (Below.refl _ _))
    go_enter Tryz.func16, Tryz.ntmps16
    go_wp2_with fail
    go_region_with (first
      | (go_at_call 23; have _t := tok1; refine (number_any (some ⟨b, off + 4, none⟩) 2 (cap - 4) (zs.drop 4) _ hd1 (by decide)).mono ?_; rw [HN1.out]; rintro e x ⟨rfl, rfl⟩; clear tok1 _t)
      | (go_at_call 43; have _t := tok2; refine (decimalText_any N1 hN1 _ T1).mono ?_; rw [HS1.out]; rintro e x1 ⟨rfl, hb1⟩; clear tok2 _t; have B1 := (Below.drew (Below.refl w.heap.size w)).trans hb1)
      | (go_at_call 23; refine (number_any (some ⟨b, off, none⟩) 4 cap (zs.take 4) _ (h4.next B1) (by decide)).mono ?_; rw [HN2.out]; rintro e x ⟨rfl, rfl⟩)
      | (go_at_call 43; refine (decimalText_any N2 hN2 _ (hT.next B1)).mono ?_; rw [HS2.out]; rintro e x2 ⟨rfl, hb2⟩))
    all_goals go_wp2_with fail
    all_goals go_ret
    all_goals exact ⟨ret_str HT.out, Below.andThen B1 hb2⟩
  · have HT : Hid (strOfNums (34 :: quoL zs ++ [34]) = str (textN t zs)) := by show _ = _; rw [TN.2.2.2.2.2.1 k, strOfNums_str]
    rw [k]
    clear TN hks hls hb k
    go_enter Tryz.func16, Tryz.ntmps16
    go_wp2_with fail
    refine (quotedText_any _ _ _ zs _ hr (by omega)).mono ?_
    rw [HT.out]
    rintro e w1 ⟨rfl, hb1⟩
    go_wp2_with fail
    go_ret
    exact ⟨rfl, hb1⟩
  · have HT : Hid (strOfNums (hexL zs) = str (textN t zs)) := by show _ = _; rw [TN.2.2.2.2.2.2 k, strOfNums_str]
    rw [k]
    clear TN hks hls hb k
    go_enter Tryz.func16, Tryz.ntmps16
    go_wp2_with fail
    refine (hexText_any _ _ _ zs _ hr (by omega)).mono ?_
    rw [HT.out]
    rintro e w1 ⟨rfl, hb1⟩
    go_wp2_with fail
    go_ret
    exact ⟨rfl, hb1⟩

set_option maxHeartbeats 2000000 in
set_option maxRecDepth 100000 in
theorem text_any (t : Int) (a : Option Addr) (len cap : Nat) (zs : List Int) (w : World) (hr : Row w a len zs) (hT : Tabs w) (hlc : len ≤ cap) (hcm : cap ≤ maxLen) :
    Calls Tryz.prog 7 #[.int .u8 t, .slice a len cap] w fun e w' => e = .returned (.tuple #[.string (str (txS t zs)), .int .i64 (txE t zs)]) ∧ Below w.heap.size w w' := by
  by_cases k0 : kindN t = 0
  · have b0 : (kindN t == 0) = true := by simp [k0]
    have H1 : Hid (str (txS t zs) = ⟨#[]⟩) := by show _ = _; unfold txS; rw [if_pos k0]; rfl
    have H2 : Hid (txE t zs = 10) := by show _ = _; unfold txE; rw [if_pos k0]
    clear k0
    go_enter Tryz.func7, Tryz.ntmps7
    go_wp2_with fail
    refine (kindOf_any _ _).mono ?_
    rintro e x ⟨rfl, rfl⟩
    go_wp2_with fail
    go_ret2
    exact ⟨ret_si H1.out.symm H2.out.symm, Below.refl _ _⟩
  have b0 : (kindN t == 0) = false := by simp [k0]
  by_cases c0 : cbN t zs = 0
  rotate_left
  · have bc : (cbN t zs != 0) = true := by simp [c0]
    have H1 : Hid (str (txS t zs) = ⟨#[]⟩) := by show _ = _; unfold txS; rw [if_neg k0, if_pos c0]; rfl
    have H2 : Hid (txE t zs = 11) := by show _ = _; unfold txE; rw [if_neg k0, if_pos c0]
    clear k0 c0
    go_enter Tryz.func7, Tryz.ntmps7
    go_wp2_with fail
    refine (kindOf_any _ _).mono ?_
    rintro e x ⟨rfl, rfl⟩
    go_wp2_with fail
    refine (checkBytes_any _ _ _ _ zs _ hr hlc hcm).mono ?_
    rintro e x ⟨rfl, rfl⟩
    go_wp2_with fail
    go_ret2
    exact ⟨ret_si H1.out.symm H2.out.symm, Below.refl _ _⟩
  have H1 : Hid (txS t zs = textN t zs) := by show _ = _; unfold txS; rw [if_neg k0, if_neg (by simp [c0])]
  have H2 : Hid (txE t zs = 0) := by show _ = _; unfold txE; rw [if_neg k0, if_neg (by simp [c0])]
  have HC : Hid (cbN t zs = 0) := c0
  clear k0 c0
  go_enter Tryz.func7, Tryz.ntmps7
  go_wp2_with fail
  refine (kindOf_any _ _).mono ?_
  rintro e x ⟨rfl, rfl⟩
  go_wp2_with fail
  refine (checkBytes_any _ _ _ _ zs _ hr hlc hcm).mono ?_
  rw [HC.out]
  rintro e x ⟨rfl, rfl⟩
  go_wp2_with fail
  refine (textOf_any t _ _ _ zs _ hr hT HC.out hlc hcm).mono ?_
  rintro e w1 ⟨rfl, hb1⟩
  go_wp2_with fail
  go_ret2
  exact ⟨ret_si (by rw [H1.out]) H2.out.symm, hb1⟩
#print axioms text_any
end Go.Proofs.YtkfmmpolcjbnbaaGreatDoor
namespace Go.Proofs.YtkfmmpolcjbnbaaGreatDoor
open Pl Go.RowKit

theorem text_int (t : Int) (M s : Nat) (h1 : 1 ≤ s) (hs : sizeN t = (s : Int)) (hk : kindN t = 2 ∨ kindN t = 3) (hM : M < 2 ^ (8 * s)) :
    txE t (bytesL (M : Int) s) = 0 ∧ num (bytesL (M : Int) s) = (M : Int) ∧ (kindN t = 2 → txS t (bytesL (M : Int) s) = Lib.itoa (sgN s (M : Int))) ∧ (kindN t = 3 → txS t (bytesL (M : Int) s) = Lib.decDigits M) := by
  have hn : num (bytesL (M : Int) s) = (M : Int) := by rw [num_bytes, Nat.mod_eq_of_lt hM]
  have hl := bytesL_length (M : Int) s
  have c0 : cbN t (bytesL (M : Int) s) = 0 := by
    unfold cbN
    rw [hl, hs, if_neg (by omega), if_neg (show ¬ (if (s : Int) = 0 then 4096 else (s : Int)) < (s : Int) by rw [if_neg (by omega)]; omega), if_neg (by omega), if_neg (by omega), if_neg (by omega)]
  have k0 : ¬ kindN t = 0 := by omega
  have TN := textN_kind t (bytesL (M : Int) s)
  refine ⟨by unfold txE; rw [if_neg k0, if_neg (by simp [c0])], hn, fun k => ?_, fun k => ?_⟩
  · unfold txS; rw [if_neg k0, if_neg (by simp [c0]), TN.2.1 k, hl, hn]
  · unfold txS; rw [if_neg k0, if_neg (by simp [c0]), TN.2.2.1 k, hn, Int.toNat_natCast]

theorem w64u (x : Int) : wrap64 (IntKind.u64.wrap x) = wrap64 x := by
  simp only [wrap64, IntKind.wrap_u64]
  omega
theorem dec_length (u : Nat) (h : u < 18446744073709551616) : (Lib.decDigits u).length ≤ 20 := by
  have := dec_len u h
  change (Lib.decDigits u).toArray.size ≤ 20 at this
  rwa [List.size_toArray] at this
theorem dec_str (u : Nat) (h : u < 18446744073709551616) : (str (Lib.decDigits u)).size ≤ 20 := dec_len u h
theorem itoa_length (n : Int) (h0 : -9223372036854775808 ≤ n) (h1 : n ≤ 9223372036854775807) : (Lib.itoa n).length ≤ 21 := by
  have := itoa_len n h0 h1
  change (Lib.itoa n).toArray.size ≤ 21 at this
  rwa [List.size_toArray] at this

theorem int_back (t : Int) (M s : Nat) (h1 : 1 ≤ s) (h8 : s ≤ 8) (hs : sizeN t = (s : Int)) (hk : kindN t = 2) (hM : M < 2 ^ (8 * s)) :
    intV t (Lib.itoa (sgN s (M : Int))) = some (bytesL (M : Int) s) ∧ intV t (Lib.decDigits (2 ^ (8 * s - 1))) = none ∧ intV t (45 :: Lib.decDigits (2 ^ (8 * s - 1) + 1)) = none := by
  have hp : 2 ^ (8 * s) = 2 * 2 ^ (8 * s - 1) := by rw [← Nat.pow_succ']; congr 1; omega
  have hp64 : 2 ^ (8 * s) ≤ 18446744073709551616 := Nat.pow_le_pow_right (by decide) (by omega : 8 * s ≤ 64)
  have hpos := Nat.two_pow_pos (8 * s - 1)
  unfold intV
  rw [if_pos hk, if_pos hk, if_pos hk, hs, Int.toNat_natCast, sgnV_pos, sgnV_neg _ _ _ (by omega), if_neg (by omega), if_neg (by omega)]
  refine ⟨?_, rfl, rfl⟩
  unfold sgN
  have e1 : (2 : Int) ^ (8 * s - 1) = ((2 ^ (8 * s - 1) : Nat) : Int) := (Int.natCast_pow 2 _).symm
  have e2 : (2 : Int) ^ (8 * s) = ((2 ^ (8 * s) : Nat) : Int) := (Int.natCast_pow 2 _).symm
  rw [e1, e2]
  by_cases h : (M : Int) < ((2 ^ (8 * s - 1) : Nat) : Int)
  · rw [if_pos h, Lib.itoa_nonneg, sgnV_pos, if_pos (by omega)]
    rfl
  · rw [if_neg h]
    have hu : (M : Int) - ((2 ^ (8 * s) : Nat) : Int) = -((2 ^ (8 * s) - M : Nat) : Int) := by omega
    rw [hu, Lib.itoa_neg _ (by omega), sgnV_neg _ _ _ (by omega), if_pos (by omega)]
    show some (bytesL ((18446744073709551616 - (2 ^ (8 * s) - M) : Nat) : Int) s) = _
    congr 1
    refine bytes_mod _ M s ?_
    obtain ⟨c, hc⟩ : ∃ c, 18446744073709551616 = c * 2 ^ (8 * s) := ⟨2 ^ (64 - 8 * s), by rw [← Nat.pow_add, show 64 - 8 * s + 8 * s = 64 from by omega]⟩
    have hc1 : 1 ≤ c := by
      rcases Nat.eq_zero_or_pos c with h | h
      · rw [h] at hc; simp at hc
      · exact h
    rw [show 18446744073709551616 - (2 ^ (8 * s) - M) = M + (c - 1) * 2 ^ (8 * s) from by
      rw [Nat.sub_mul, Nat.one_mul, hc]
      have : 2 ^ (8 * s) ≤ c * 2 ^ (8 * s) := Nat.le_mul_of_pos_left _ hc1
      omega, Nat.add_mul_mod_self_right]
end Go.Proofs.YtkfmmpolcjbnbaaGreatDoor
