/-
  The text of a value, plain; and the walks of textOf and Text.
-/
import Derived.Test.YtkfmmpolcjbnbaaDoorRfw
import Derived.Test.YtkfmmpolcjbnbaaDoorQuo
import Derived.Test.YtkfmmpolcjbnbaaDoorCompW
namespace Go.Proofs.YtkfmmpolcjbnbaaDoor
open Pl Go.RowKit

/-- The text of a value. -/
def textN (t : Int) (zs : List Int) : List UInt8 :=
  if kindN t = 1 then (if zs.getD 0 0 = 1 then [116, 114, 117, 101] else [102, 97, 108, 115, 101])
  else if kindN t = 2 then Lib.itoa (sgN zs.length (num zs))
  else if kindN t = 3 then Lib.decDigits (num zs).toNat
  else if kindN t = 4 then (if t = 17 then rf64 zs else rf32 zs)
  else if kindN t = 5 then Lib.decDigits (num (zs.drop 4)).toNat ++ (58 :: Lib.decDigits (num (zs.take 4)).toNat)
  else if kindN t = 6 then byteL (34 :: quoL zs ++ [34]) else byteL (hexL zs)

/-- What Text tells: the text, and the error's number. -/
def txS (t : Int) (zs : List Int) : List UInt8 := if kindN t = 0 then [] else if cbN t zs ≠ 0 then [] else textN t zs
def txE (t : Int) (zs : List Int) : Int := if kindN t = 0 then 10 else if cbN t zs ≠ 0 then 11 else 0

theorem ret_si {a b : ByteArray} {k : IntKind} {c d : Int} (h : a = b) (h' : c = d) : Ending.returned (.tuple #[.string a, .int k c]) = .returned (.tuple #[.string b, .int k d]) := by rw [h, h']

/-- The text of a float by its word is the document's. -/
theorem fltS_rf (t : Int) (zs : List Int) (X : Nat) (ho : Oct zs) (hk : kindN t = 4) (hl : (zs.length : Int) = sizeN t) (h : FWord zs X) : fltS zs X = (if t = 17 then rf64 zs else rf32 zs) := by
  have hb := num_bd zs ho
  rcases float_types t hk with ⟨rfl, hs⟩ | ⟨rfl, hs⟩
  · rw [if_neg (by decide)]
    have hl4 : zs.length = 4 := by omega
    rw [hl4] at hb
    simp only [Nat.reduceMul, Int.reducePow] at hb
    rcases h with ⟨h8, _⟩ | ⟨_, hw⟩
    · omega
    by_cases hn : (num zs).toNat % 2147483648 ≤ 2139095040
    · obtain ⟨e1, e2, e3⟩ := wide_text _ X hw hn
      unfold fltS rf32
      rw [if_neg (show ¬ 9218868437227405312 < X % 9223372036854775808 by omega), if_neg (show ¬ 2139095040 < (num zs).toNat % 2147483648 by omega), e1, e3]
    · obtain ⟨R, rfl, hc⟩ := hw
      have hR : R = 9218868437227405313 := by omega
      subst hR
      unfold fltS rf32
      rw [if_pos (by omega), if_pos (by omega)]
  · rw [if_pos rfl]
    have hl8 : zs.length = 8 := by omega
    rcases h with ⟨_, rfl⟩ | ⟨h4, _⟩
    · unfold fltS rf64
      rfl
    · omega

theorem textN_kind (t : Int) (zs : List Int) :
    (kindN t = 1 → textN t zs = (if zs.getD 0 0 = 1 then [116, 114, 117, 101] else [102, 97, 108, 115, 101])) ∧ (kindN t = 2 → textN t zs = Lib.itoa (sgN zs.length (num zs))) ∧ (kindN t = 3 → textN t zs = Lib.decDigits (num zs).toNat) ∧
    (kindN t = 4 → textN t zs = (if t = 17 then rf64 zs else rf32 zs)) ∧ (kindN t = 5 → textN t zs = Lib.decDigits (num (zs.drop 4)).toNat ++ (58 :: Lib.decDigits (num (zs.take 4)).toNat)) ∧
    (kindN t = 6 → textN t zs = byteL (34 :: quoL zs ++ [34])) ∧ (kindN t = 7 → textN t zs = byteL (hexL zs)) := by
  refine ⟨fun h => ?_, fun h => ?_, fun h => ?_, fun h => ?_, fun h => ?_, fun h => ?_, fun h => ?_⟩
  all_goals unfold textN; simp [h]

theorem cb_zero_len (t : Int) (zs : List Int) (h : cbN t zs = 0) : kindN t ≠ 0 ∧ (zs.length : Int) ≤ 4096 ∧ (1 ≤ sizeN t → (zs.length : Int) = sizeN t) := by
  have h0 : kindN t ≠ 0 := fun h0 => by unfold cbN at h; rw [if_pos h0] at h; omega
  refine ⟨h0, ?_, cb_len t zs h⟩
  have hs := size_bd t
  unfold cbN at h
  rw [if_neg h0] at h
  by_cases h1 : (if sizeN t = 0 then 4096 else sizeN t) < (zs.length : Int)
  · rw [if_pos h1] at h; omega
  · split at h1 <;> omega

set_option maxHeartbeats 8000000 in
set_option maxRecDepth 100000 in
theorem textOf_any (t : Int) (a : Option Addr) (len cap : Nat) (zs : List Int) (w : World) (hr : Row w a len zs) (hT : Tabs w) (hc : cbN t zs = 0) (hlc : len ≤ cap) (hcm : cap ≤ maxLen) :
    Calls Tryd.prog 14 #[.int .u8 (kindN t), .slice a len cap] w fun e w' => e = .returned (.string (str (textN t zs))) ∧ Below w.heap.size w w' := by
  obtain ⟨k0, hl4, hls⟩ := cb_zero_len t zs hc
  have hs := hr.size
  have hkb := kind_bd t
  have hks := kind_size t
  have hsb := size_bd t
  have TN := textN_kind t zs
  have hb := num_bd zs hr.oct
  unfold maxLen at hcm
  have K : kindN t = 1 ∨ kindN t = 2 ∨ kindN t = 3 ∨ kindN t = 4 ∨ kindN t = 5 ∨ kindN t = 6 ∨ kindN t = 7 := by omega
  rcases K with k | k | k | k | k | k | k
  · have hl1 := hls (by omega)
    obtain ⟨b, off, rfl, hcell⟩ := hr.at_ (by omega)
    have hc0 := hcell 0 (by omega)
    rw [Nat.add_zero] at hc0
    have hp : (0 : Int) < (len : Int) := by omega
    have TV := TN.1 k
    rw [k]
    have HF : Hid (∀ v : Bool, str (Lib.formatBool v) = str (if v = true then [116, 114, 117, 101] else [102, 97, 108, 115, 101])) := fun v => by cases v <;> rfl
    by_cases hv : zs.getD 0 0 = 1
    · have HT : Hid (str (textN t zs) = str (Lib.formatBool true)) := by show _ = _; rw [TV, if_pos hv]; rfl
      rw [hv] at hc0
      clear TN hks hls hb hcell TV hr
      go_enter Tryd.func14, Tryd.ntmps14
      go_wp2_with fail
      refine (Tryd.strconv_FormatBool _ _).mono ?_
      rintro e x ⟨rfl, rfl⟩
      go_wp2_with fail
      go_ret
      exact ⟨ret_str HT.out.symm, Below.refl _ _⟩
    · have HT : Hid (str (textN t zs) = str (Lib.formatBool false)) := by show _ = _; rw [TV, if_neg hv]; rfl
      have hvb : (zs.getD 0 0 == 1) = false := by rw [beq_eq_false_iff_ne]; exact hv
      generalize zs.getD 0 0 = z at *
      clear TN hks hls hb hcell TV hr
      go_enter Tryd.func14, Tryd.ntmps14
      go_wp2_with fail
      refine (Tryd.strconv_FormatBool _ _).mono ?_
      rintro e x ⟨rfl, rfl⟩
      go_wp2_with fail
      go_ret
      exact ⟨ret_str HT.out.symm, Below.refl _ _⟩
  · have hl1 := hls (by omega)
    have HT : Hid (str (textN t zs) = ⟨(Lib.itoa (sgN len (num zs))).toArray⟩) := by show _ = _; rw [TN.2.1 k, hs]; rfl
    rw [k]
    rw [HT.out]
    exact textOf_signed a len cap zs w hr (by omega) (by omega) hT
  · have hl1 := hls (by omega)
    obtain ⟨N, HN⟩ : ∃ N : Nat, num zs = (N : Int) := Int.eq_ofNat_of_zero_le hb.1
    have HNN : Hid (num zs = (N : Int)) := HN
    have h64 := num_lt64 zs hr.oct (by omega)
    have HT : Hid (str (textN t zs) = ⟨(Lib.decDigits N).toArray⟩) := by show _ = _; rw [TN.2.2.1 k, HN, Int.toNat_natCast]; rfl
    have hN : N < 18446744073709551616 := by omega
    have h8 : len ≤ 8 := by omega
    rw [k, HT.out]
    clear TN hks hls hb hl1 k HN h64
    go_enter Tryd.func14, Tryd.ntmps14
    go_wp2_with fail
    refine (number_any _ _ _ zs _ hr h8).mono ?_
    rw [HNN.out]
    rintro e x ⟨rfl, rfl⟩
    go_wp2_with fail
    refine (decimalText_any N hN _ hT).mono ?_
    rintro e w1 ⟨rfl, hb1⟩
    go_wp2_with fail
    go_ret
    exact ⟨rfl, hb1⟩
  · have hl1 := hls (by have := hks.2.2.2.2.2.1 k; omega)
    have h48 := hks.2.2.2.2.2.1 k
    have HT : Hid (∀ X, FWord zs X → str (fltS zs X) = str (textN t zs)) := fun X hX => by rw [fltS_rf t zs X hr.oct k hl1 hX, TN.2.2.2.1 k]
    have hl48 : len = 4 ∨ len = 8 := by omega
    rw [k]
    clear TN hks hls hb hl1 k h48
    go_enter Tryd.func14, Tryd.ntmps14
    go_wp2_with fail
    refine (floatText_any _ _ _ zs _ hr hT hl48).mono ?_
    rintro e w1 ⟨X, hX, rfl, hb1⟩
    go_wp2_with fail
    go_ret
    exact ⟨ret_str (HT.out X hX), hb1⟩
  · have h6 := hks.2.2.1 k
    have hl1 := hls (by omega)
    have hl6 : len = 6 := by omega
    subst hl6
    obtain ⟨b, off, rfl, hcell⟩ := hr.at_ (by omega)
    have h4 := hr.head 4 (by omega)
    have ht : Row w (some ⟨b, off + 4, none⟩) 2 (zs.drop 4) := by
      refine ⟨by rw [List.length_drop]; omega, hr.oct.drop 4, fun _ => ⟨b, off + 4, rfl, fun i hi => ?_⟩⟩
      rw [Nat.add_assoc, hcell (4 + i) (by omega)]
      simp [List.getD_eq_getElem?_getD]
    have q1 := num_lt64 _ ht.oct (by rw [ht.size]; decide)
    have q2 := num_lt64 _ h4.oct (by rw [h4.size]; decide)
    obtain ⟨N1, HN1⟩ : ∃ N : Nat, Hid (num (zs.drop 4) = (N : Int)) := Int.eq_ofNat_of_zero_le q1.1
    obtain ⟨N2, HN2⟩ : ∃ N : Nat, Hid (num (zs.take 4) = (N : Int)) := Int.eq_ofNat_of_zero_le q2.1
    have hN1 : N1 < 18446744073709551616 := by have := HN1.out; omega
    have hN2 : N2 < 18446744073709551616 := by have := HN2.out; omega
    obtain ⟨s1, HS1⟩ : ∃ s, Hid ((⟨(Lib.decDigits N1).toArray⟩ : ByteArray) = s) := ⟨_, rfl⟩
    obtain ⟨s2, HS2⟩ : ∃ s, Hid ((⟨(Lib.decDigits N2).toArray⟩ : ByteArray) = s) := ⟨_, rfl⟩
    have z1 := dec_len N1 hN1
    have z2 := dec_len N2 hN2
    rw [HS1.out] at z1
    rw [HS2.out] at z2
    have ad1 := add_run s1 ⟨#[58]⟩ (by have : (⟨#[58]⟩ : ByteArray).size = 1 := rfl; omega)
    have ad2 := add_run (s1 ++ ⟨#[58]⟩) s2 (by rw [ByteArray.size_append]; have : (⟨#[58]⟩ : ByteArray).size = 1 := rfl; omega)
    have HT : Hid (s1 ++ ⟨#[58]⟩ ++ s2 = str (textN t zs)) := by
      show _ = _
      rw [TN.2.2.2.2.1 k, HN1.out, HN2.out, Int.toNat_natCast, Int.toNat_natCast, ← HS1.out, ← HS2.out, str3]
    have hp4 : (4 : Int) ≤ (cap : Int) := by omega
    have hc4 : ¬ cap = 4 := by omega
    rw [k]
    clear TN hks hls hb hl1 k hcell hr q1 q2 z1 z2 h6 hs hl4
    have tok1 : True := trivial
    have tok2 : True := trivial
    have hd1 := ht.next (Below.drew (Below.refl _ _))
    have T1 := hT.next (Below.drew (Below.refl _ _))
    go_enter Tryd.func14, Tryd.ntmps14
    go_wp2_with fail
    go_region_with (first
      | (go_at_call 24; have _t := tok1; refine (number_any (some ⟨b, off + 4, none⟩) 2 (cap - 4) (zs.drop 4) _ hd1 (by decide)).mono ?_; rw [HN1.out]; rintro e x ⟨rfl, rfl⟩; clear tok1 _t)
      | (go_at_call 27; have _t := tok2; refine (decimalText_any N1 hN1 _ T1).mono ?_; rw [HS1.out]; rintro e x1 ⟨rfl, hb1⟩; clear tok2 _t; have B1 := (Below.drew (Below.refl w.heap.size w)).trans hb1)
      | (go_at_call 24; refine (number_any (some ⟨b, off, none⟩) 4 cap (zs.take 4) _ (h4.next B1) (by decide)).mono ?_; rw [HN2.out]; rintro e x ⟨rfl, rfl⟩)
      | (go_at_call 27; refine (decimalText_any N2 hN2 _ (hT.next B1)).mono ?_; rw [HS2.out]; rintro e x2 ⟨rfl, hb2⟩))
    all_goals go_wp2_with fail
    all_goals go_ret
    all_goals exact ⟨ret_str HT.out, Below.andThen B1 hb2⟩
  · have HT : Hid (strOfNums (34 :: quoL zs ++ [34]) = str (textN t zs)) := by show _ = _; rw [TN.2.2.2.2.2.1 k, strOfNums_str]
    rw [k]
    clear TN hks hls hb k
    go_enter Tryd.func14, Tryd.ntmps14
    go_wp2_with fail
    refine (quotedText_any _ _ _ zs _ hr (by omega)).mono ?_
    rw [HT.out]
    rintro e w1 ⟨rfl, hb1⟩
    go_wp2_with fail
    go_ret
    exact ⟨rfl, hb1⟩
  · have HT : Hid (strOfNums (hexL zs) = str (textN t zs)) := by show _ = _; rw [TN.2.2.2.2.2.2 k, strOfNums_str]
    rw [k]
    clear TN hks hls hb k
    go_enter Tryd.func14, Tryd.ntmps14
    go_wp2_with fail
    refine (hexText_any _ _ _ zs _ hr (by omega)).mono ?_
    rw [HT.out]
    rintro e w1 ⟨rfl, hb1⟩
    go_wp2_with fail
    go_ret
    exact ⟨rfl, hb1⟩

set_option maxHeartbeats 2000000 in
set_option maxRecDepth 100000 in
theorem text_any (t : Int) (a : Option Addr) (len cap : Nat) (zs : List Int) (w : World) (hr : Row w a len zs) (hT : Tabs w) (hlc : len ≤ cap) (hcm : cap ≤ maxLen) :
    Calls Tryd.prog 6 #[.int .u8 t, .slice a len cap] w fun e w' => e = .returned (.tuple #[.string (str (txS t zs)), .int .i64 (txE t zs)]) ∧ Below w.heap.size w w' := by
  by_cases k0 : kindN t = 0
  · have b0 : (kindN t == 0) = true := by simp [k0]
    have H1 : Hid (str (txS t zs) = ⟨#[]⟩) := by show _ = _; unfold txS; rw [if_pos k0]; rfl
    have H2 : Hid (txE t zs = 10) := by show _ = _; unfold txE; rw [if_pos k0]
    clear k0
    go_enter Tryd.func6, Tryd.ntmps6
    go_wp2_with fail
    refine (kindOf_any _ _).mono ?_
    rintro e x ⟨rfl, rfl⟩
    go_wp2_with fail
    go_ret2
    exact ⟨ret_si H1.out.symm H2.out.symm, Below.refl _ _⟩
  have b0 : (kindN t == 0) = false := by simp [k0]
  by_cases c0 : cbN t zs = 0
  rotate_left
  · have bc : (cbN t zs != 0) = true := by simp [c0]
    have H1 : Hid (str (txS t zs) = ⟨#[]⟩) := by show _ = _; unfold txS; rw [if_neg k0, if_pos c0]; rfl
    have H2 : Hid (txE t zs = 11) := by show _ = _; unfold txE; rw [if_neg k0, if_pos c0]
    clear k0 c0
    go_enter Tryd.func6, Tryd.ntmps6
    go_wp2_with fail
    refine (kindOf_any _ _).mono ?_
    rintro e x ⟨rfl, rfl⟩
    go_wp2_with fail
    refine (checkBytes_any _ _ _ _ zs _ hr hlc hcm).mono ?_
    rintro e x ⟨rfl, rfl⟩
    go_wp2_with fail
    go_ret2
    exact ⟨ret_si H1.out.symm H2.out.symm, Below.refl _ _⟩
  have H1 : Hid (txS t zs = textN t zs) := by show _ = _; unfold txS; rw [if_neg k0, if_neg (by simp [c0])]
  have H2 : Hid (txE t zs = 0) := by show _ = _; unfold txE; rw [if_neg k0, if_neg (by simp [c0])]
  have HC : Hid (cbN t zs = 0) := c0
  clear k0 c0
  go_enter Tryd.func6, Tryd.ntmps6
  go_wp2_with fail
  refine (kindOf_any _ _).mono ?_
  rintro e x ⟨rfl, rfl⟩
  go_wp2_with fail
  refine (checkBytes_any _ _ _ _ zs _ hr hlc hcm).mono ?_
  rw [HC.out]
  rintro e x ⟨rfl, rfl⟩
  go_wp2_with fail
  refine (textOf_any t _ _ _ zs _ hr hT HC.out hlc hcm).mono ?_
  rintro e w1 ⟨rfl, hb1⟩
  go_wp2_with fail
  go_ret2
  exact ⟨ret_si (by rw [H1.out]) H2.out.symm, hb1⟩
#print axioms text_any
end Go.Proofs.YtkfmmpolcjbnbaaDoor
