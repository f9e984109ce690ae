/-
  The walk of floatText: the text of a float of 4 or 8 bytes.
-/
import Derived.Test.YtkfmmpolcjbnbaaDoorFl1
import Derived.Test.YtkfmmpolcjbnbaaDoorRev
import Derived.Test.YtkfmmpolcjbnbaaDoorHex
import Derived.Lib.OwnBridge
namespace Go.Proofs.YtkfmmpolcjbnbaaDoor
open Pl Go.RowKit Go.Sort

theorem reverse_any (g len cap : Nat) (zs : List Int) (w0 w : World) (h : Own w g len zs) (hb : Below w0.heap.size w0 w) (hg : w0.heap.size ≤ g) (hl : len ≤ 16777216) :
    Calls Tryd.prog 49 #[.slice (some ⟨g, 0, none⟩) len cap] w fun e w' => e = .returned (.tuple #[]) ∧ Row w' (some ⟨g, 0, none⟩) len zs.reverse ∧ Below w0.heap.size w0 w' := by
  have hsz : zs.toArray.size = len := by simp [h.size]
  have hr := reverse_arr g 0 cap zs.toArray w h.holds (by omega)
  rw [hsz] at hr
  refine hr.mono ?_
  rintro e w' ⟨rfl, n, rfl⟩
  refine ⟨rfl, ⟨by simp [h.size], fun x hx => h.oct x (by simpa using hx), fun _ => ⟨g, 0, rfl, fun i hi => ?_⟩⟩, Lib.below_putRow hb hg⟩
  have hc := cell?_putRow (Value.int .u8) (Sort.ahead w n) g 0 zs.toArray zs.toArray.reverse (holds_ahead (Value.int .u8) w n g 0 zs.toArray h.holds) (by simp) i (by simp [h.size]; exact hi)
  rw [hc]
  have hi' : i < zs.length := by rw [h.size]; exact hi
  simp [List.getD_eq_getElem?_getD, hi', getElem!_pos]

/-- A number as a byte. -/
def byteL (zs : List Int) : List UInt8 := zs.map fun n => UInt8.ofNat n.toNat
theorem strOfNums_str (zs : List Int) : strOfNums zs = str (byteL zs) := rfl

/-- The text of a float: its bytes, and its word as one of 64 bits. -/
def fltS (zs : List Int) (X : Nat) : List UInt8 :=
  if 9218868437227405312 < X % 9223372036854775808 then [110, 97, 110, 58] ++ byteL (hexL zs.reverse)
  else if X / 9223372036854775808 = 1 then 45 :: sizeS (X % 9223372036854775808) else sizeS (X % 9223372036854775808)

theorem fword_lt (zs : List Int) (X : Nat) (ho : Oct zs) (h : FWord zs X) : X < 18446744073709551616 := by
  have hb := num_bd zs ho
  rcases h with ⟨hl, rfl⟩ | ⟨hl, R, rfl, hc⟩
  · rw [hl] at hb
    simp only [Nat.reduceMul, Int.reducePow] at hb
    omega
  · rw [hl] at hb
    simp only [Nat.reduceMul, Int.reducePow] at hb
    omega

theorem sizeS_len (R : Nat) (h : R < 9223372036854775808) : (str (sizeS R)).size ≤ 50 := by
  have ho : ∀ m e, m ≠ 0 → m < 18446744073709551616 → -3000 ≤ e → e ≤ 3000 → (str (oddS m e)).size ≤ 50 := by
    intro m e hm hm' h0 h1
    obtain ⟨_, hz⟩ := Lib.lowest_bit 64 m hm hm'
    have h3 : m / 2 ^ Lib.ctz 64 m < 18446744073709551616 := Nat.lt_of_le_of_lt (Nat.div_le_self _ _) hm'
    have z1 := dec_len _ h3
    have z2 := itoa_len (e + (Lib.ctz 64 m : Int)) (by omega) (by omega)
    change (Lib.decDigits _).toArray.size ≤ 20 at z1
    change (Lib.itoa _).toArray.size ≤ 21 at z2
    show (oddS m e).toArray.size ≤ 50
    unfold oddS
    simp only [List.size_toArray, List.length_append, List.length_cons] at z1 z2 ⊢
    omega
  unfold sizeS
  split
  · decide
  split
  · decide
  split
  · exact ho _ _ (by assumption) (by omega) (by decide) (by decide)
  · exact ho _ _ (by omega) (by omega) (by omega) (by omega)

set_option maxHeartbeats 2000000 in
set_option maxRecDepth 100000 in
theorem floatText_any (a : Option Addr) (len cap : Nat) (zs : List Int) (w : World) (hr : Row w a len zs) (hT : Tabs w) (hl : len = 4 ∨ len = 8) :
    Calls Tryd.prog 28 #[.slice a len cap] w fun e w' => ∃ X, FWord zs X ∧ e = .returned (.string (str (fltS zs X))) ∧ Below w.heap.size w w' := by
  go_enter Tryd.func28, Tryd.ntmps28
  go_wp2_with fail
  refine (floatOf_any _ _ _ zs _ hr hT.t64 hl).mono ?_
  rintro e w1 ⟨X, rfl, hX, hb1⟩
  have hlt := fword_lt zs X hr.oct hX
  have T1 := hT.next hb1
  have r1 := hr.next hb1
  by_cases hn : 9218868437227405312 < X % 9223372036854775808
  · have HN : Hid ((Ieee.double.order X X != some .eq) = true) := by show (Ieee.double.order X X != some .eq) = true; rw [order_self]; simp [hn]
    have HF : Hid (fltS zs X = [110, 97, 110, 58] ++ byteL (hexL zs.reverse)) := by show fltS zs X = _; unfold fltS; rw [if_pos hn]
    have hl8 : len ≤ 8 := by omega
    have hl0 : 0 < len := by omega
    obtain ⟨s1, HS1⟩ : ∃ s, Hid (strOfNums (hexL zs.reverse) = s) := ⟨_, rfl⟩
    have z1 : s1.size ≤ 16 := by
      rw [← HS1.out, strOfNums_size, hexL_length, List.length_reverse, hr.size]; omega
    have ad := add_run ⟨#[110, 97, 110, 58]⟩ s1 (by have : (⟨#[110, 97, 110, 58]⟩ : ByteArray).size = 4 := rfl; omega)
    clear hn z1 hl
    go_wp2_with fail
    refine (isNaN_any X _).mono ?_
    rw [HN.out]
    rintro e w ⟨rfl, rfl⟩
    go_wp2_with fail
    refine (clone_any _ _ _ zs _ r1 hl0 (by omega)).mono ?_
    rintro e w2 ⟨g, cp, rfl, hc1, hc2, hg, ho, hb2⟩
    go_wp2_with fail
    refine (reverse_any g len cp zs _ _ ho hb2 hg (by omega)).mono ?_
    rintro e w3 ⟨rfl, r3, hb3⟩
    go_wp2_with fail
    refine (hexText_any _ _ _ zs.reverse _ r3 (by omega)).mono ?_
    rw [HS1.out]
    rintro e w4 ⟨rfl, hb4⟩
    go_wp2_with fail
    go_ret
    refine ⟨X, hX, ret_str ?_, Below.andThen (Below.andThen hb1 hb3) hb4⟩
    rw [HF.out, ← HS1.out, strOfNums_str, ← str_append]
    rfl
  have HN : Hid ((Ieee.double.order X X != some .eq) = false) := by show (Ieee.double.order X X != some .eq) = false; rw [order_self]; simp; omega
  have hR : X % 9223372036854775808 ≤ 9218868437227405312 := by omega
  have hz := sizeS_len (X % 9223372036854775808) (by omega)
  obtain ⟨s1, HS1⟩ : ∃ s, Hid (str (sizeS (X % 9223372036854775808)) = s) := ⟨_, rfl⟩
  rw [HS1.out] at hz
  by_cases hs : X / 9223372036854775808 = 1
  · have hs' : ((X : Int) / 9223372036854775808 == 1) = true := by simp; omega
    have HF : Hid (fltS zs X = 45 :: sizeS (X % 9223372036854775808)) := by show fltS zs X = _; unfold fltS; rw [if_neg hn, if_pos hs]
    have ad := add_run ⟨#[45]⟩ s1 (by have : (⟨#[45]⟩ : ByteArray).size = 1 := rfl; omega)
    clear hn hz hl hs
    go_wp2_with fail
    refine (isNaN_any X _).mono ?_
    rw [HN.out]
    rintro e w ⟨rfl, rfl⟩
    go_wp2_with fail
    refine (signBit_any X _).mono ?_
    rintro e w ⟨rfl, rfl⟩
    go_wp2_with fail
    refine (abs_any X _ hlt).mono ?_
    rintro e w ⟨rfl, rfl⟩
    go_wp2_with fail
    refine (sizeText_any _ _ hR T1).mono ?_
    rw [HS1.out]
    rintro e w2 ⟨rfl, hb2⟩
    go_wp2_with fail
    go_ret
    refine ⟨X, hX, ret_str ?_, Below.andThen hb1 hb2⟩
    rw [HF.out, ← HS1.out, show (⟨#[45]⟩ : ByteArray) = str [45] from rfl, str_append]
    rfl
  · have hs' : ((X : Int) / 9223372036854775808 == 1) = false := by simp; omega
    have HF : Hid (fltS zs X = sizeS (X % 9223372036854775808)) := by show fltS zs X = _; unfold fltS; rw [if_neg hn, if_neg hs]
    have ad := add_run ⟨#[]⟩ s1 (by have : (⟨#[]⟩ : ByteArray).size = 0 := rfl; omega)
    clear hn hz hl hs
    go_wp2_with fail
    refine (isNaN_any X _).mono ?_
    rw [HN.out]
    rintro e w ⟨rfl, rfl⟩
    go_wp2_with fail
    refine (signBit_any X _).mono ?_
    rintro e w ⟨rfl, rfl⟩
    go_wp2_with fail
    refine (abs_any X _ hlt).mono ?_
    rintro e w ⟨rfl, rfl⟩
    go_wp2_with fail
    refine (sizeText_any _ _ hR T1).mono ?_
    rw [HS1.out]
    rintro e w2 ⟨rfl, hb2⟩
    go_wp2_with fail
    go_ret
    refine ⟨X, hX, ret_str ?_, Below.andThen hb1 hb2⟩
    rw [HF.out, ← HS1.out, show (⟨#[]⟩ : ByteArray) = str [] from rfl, str_append]
    rfl
#print axioms floatText_any
end Go.Proofs.YtkfmmpolcjbnbaaDoor
