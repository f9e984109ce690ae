/-
  The walk of the document's Text, of the kind 5.
-/
import Derived.Test.YthoaandafmmojaaGreatDoorTxt
import Derived.Test.YthoaandafmmojaaGreatDoorRqu
import Derived.Test.YthoaandafmmojaaGreatDoorRef1
namespace Go.Proofs.YthoaandafmmojaaGreatDoor
open Pl Go.RowKit

set_option maxHeartbeats 4000000 in
set_option maxRecDepth 100000 in
theorem refText_k5 (t : Int) (a : Option Addr) (len cap : Nat) (zs : List Int) (w : World) (hr : Row w a len zs) (hlc : len ≤ cap) (hcm : cap ≤ maxLen) (c0 : cbN t zs = 0) (k : kindN t = 5) :
    Calls Tryz.prog 7 #[.int .u8 t, .slice a len cap] w fun e w' => e = .returned (.tuple #[.string (str (txS t zs)), .int .i64 (txE t zs)]) ∧ Below w.heap.size w w' := by
  have hle := let_is t
  have k0 : kindN t ≠ 0 := by omega
  have HR : Hid ((letN t != 0) = true) := by show (letN t != 0) = true; rw [let_right]; simp [k0]
  have H1 : Hid (txS t zs = textN t zs) := by show _ = _; unfold txS; rw [if_neg k0, if_neg (by simp [c0])]
  have H2 : Hid (txE t zs = 0) := by show _ = _; unfold txE; rw [if_neg k0, if_neg (by simp [c0])]
  have HC : Hid (cbN t zs = 0) := c0
  obtain ⟨_, hl4, hls⟩ := cb_zero_len t zs c0
  have hs := hr.size
  have hkb := kind_bd t
  have hks := kind_size t
  have hsb := size_bd t
  have TN := textN_kind t zs
  have hb := num_bd zs hr.oct
  have P0 := plain_any t a len cap zs w hr hlc hcm
  have HP : Hid (Calls Tryz.prog 15 #[.int .u8 t, .slice a len cap] w fun e w' => e = .returned (.int .u32 0) ∧ w' = w) := by rw [c0] at P0; exact P0
  clear P0
  unfold maxLen at hcm
  have HL : Hid (letN t = 116) := hle.2.2.2.2.1.2 k
  have h6 := hks.2.2.1 k
  have hl1 := hls (by omega)
  have hl6 : len = 6 := by omega
  subst hl6
  obtain ⟨b, off, rfl, hcell⟩ := hr.at_ (by omega)
  have h4 := hr.head 4 (by omega)
  have ht : Row w (some ⟨b, off + 4, none⟩) 2 (zs.drop 4) := by
    refine ⟨by rw [List.length_drop]; omega, hr.oct.drop 4, fun _ => ⟨b, off + 4, rfl, fun i hi => ?_⟩⟩
    rw [Nat.add_assoc, hcell (4 + i) (by omega)]
    simp [List.getD_eq_getElem?_getD]
  have q1 := num_lt64 _ ht.oct (by rw [ht.size]; decide)
  have q2 := num_lt64 _ h4.oct (by rw [h4.size]; decide)
  obtain ⟨N1, HN1⟩ : ∃ N : Nat, Hid (num (zs.drop 4) = (N : Int)) := Int.eq_ofNat_of_zero_le q1.1
  obtain ⟨N2, HN2⟩ : ∃ N : Nat, Hid (num (zs.take 4) = (N : Int)) := Int.eq_ofNat_of_zero_le q2.1
  have hN1 : N1 < 18446744073709551616 := by have := HN1.out; omega
  have hN2 : N2 < 18446744073709551616 := by have := HN2.out; omega
  obtain ⟨s1, HS1⟩ : ∃ s, Hid (str (Lib.decDigits N1) = s) := ⟨_, rfl⟩
  obtain ⟨s2, HS2⟩ : ∃ s, Hid (str (Lib.decDigits N2) = s) := ⟨_, rfl⟩
  have z1 := dec_len N1 hN1
  have z2 := dec_len N2 hN2
  change (str (Lib.decDigits N1)).size ≤ 20 at z1
  change (str (Lib.decDigits N2)).size ≤ 20 at z2
  rw [HS1.out] at z1
  rw [HS2.out] at z2
  have ad1 := add_run s1 ⟨#[58]⟩ (by have : (⟨#[58]⟩ : ByteArray).size = 1 := rfl; omega)
  have ad2 := add_run (s1 ++ ⟨#[58]⟩) s2 (by rw [ByteArray.size_append]; have : (⟨#[58]⟩ : ByteArray).size = 1 := rfl; omega)
  have HT : Hid (s1 ++ ⟨#[58]⟩ ++ s2 = str (txS t zs)) := by
    show _ = _
    rw [H1.out, TN.2.2.2.2.1 k, HN1.out, HN2.out, Int.toNat_natCast, Int.toNat_natCast, ← HS1.out, ← HS2.out]
    exact str3 _ _ _
  have hp4 : (4 : Int) ≤ (cap : Int) := by omega
  have hc4 : ¬ cap = 4 := by omega
  have HD1 : Hid (∀ w : World, Calls Tryz.prog 19 #[.int .u64 (N1 : Int)] w fun e w' => e = .returned (.string s1) ∧ Below w.heap.size w w') := by
    have := digits_any N1 hN1
    rw [HS1.out] at this
    exact this
  have HD2 : Hid (∀ w : World, Calls Tryz.prog 19 #[.int .u64 (N2 : Int)] w fun e w' => e = .returned (.string s2) ∧ Below w.heap.size w w') := by
    have := digits_any N2 hN2
    rw [HS2.out] at this
    exact this
  clear TN hks hls hb hl1 k hcell hr q1 q2 z1 z2 h6 hs hl4 hle k0 c0
  have tok1 : True := trivial
  have tok2 : True := trivial
  have hd1 := ht.next (Below.drew (Below.refl _ _))
  go_enter Tryz.func7, Tryz.ntmps7
  go_wp2_with fail
  refine (refRight_any _ _).mono ?_
  rw [HR.out]
  rintro e w ⟨rfl, rfl⟩
  go_wp2_with fail
  refine HP.out.mono ?_
  rintro e w ⟨rfl, rfl⟩
  go_wp2_with fail
  refine (refKind_any _ _).mono ?_
  rw [HL.out]
  rintro e w ⟨rfl, rfl⟩
  go_wp2_with fail
  go_region_with (first
    | (go_at_call 18; have _t := tok1; refine (refNumber_any (some ⟨b, off + 4, none⟩) 2 (cap - 4) (zs.drop 4) _ hd1 (by decide)).mono ?_; rw [HN1.out]; rintro e x ⟨rfl, rfl⟩; clear tok1 _t)
    | (go_at_call 19; have _t := tok2; refine (HD1.out _).mono ?_; rintro e x1 ⟨rfl, hb1⟩; clear tok2 _t; have B1 := (Below.drew (Below.refl w.heap.size w)).trans hb1)
    | (go_at_call 18; refine (refNumber_any (some ⟨b, off, none⟩) 4 cap (zs.take 4) _ (h4.next B1) (by decide)).mono ?_; rw [HN2.out]; rintro e x ⟨rfl, rfl⟩)
    | (go_at_call 19; refine (HD2.out _).mono ?_; rintro e x2 ⟨rfl, hb2⟩))
  all_goals go_wp2_with fail
  all_goals go_ret2
  all_goals exact ⟨ret_si HT.out H2.out.symm, Below.andThen B1 hb2⟩
end Go.Proofs.YthoaandafmmojaaGreatDoor
