/-
  The walk of hexText: each byte as two small digits to the base 16.
  The walk of floatText: the text of a float of 4 or 8 bytes.
  The walks of must, at what is not right, and of readDecimal: decimal digits as a number that is at most that.
-/
import Derived.Test.YtkfmmpolcjbnbaaGreatDoorLent
import Derived.Test.YtkfmmpolcjbnbaaGreatDoorLaid
import Derived.Lib.OwnBridge
namespace Go.Proofs.YtkfmmpolcjbnbaaGreatDoor
open Pl Go.RowKit

/-- A digit's byte. -/
def hexZ (x : Int) : Int := if x < 10 then 48 + x else 87 + x
/-- The digits of bytes, as numbers. -/
def hexL : List Int → List Int
  | [] => []
  | z :: zs => hexZ (z / 16) :: hexZ (z % 16) :: hexL zs

theorem hexL_length : ∀ zs : List Int, (hexL zs).length = 2 * zs.length
  | [] => rfl
  | z :: zs => by simp [hexL, hexL_length zs]; omega
theorem hexL_snoc : ∀ (zs : List Int) (z : Int), hexL (zs ++ [z]) = hexL zs ++ [hexZ (z / 16), hexZ (z % 16)]
  | [], z => rfl
  | y :: zs, z => by simp [hexL, hexL_snoc zs z]
theorem hexZ_bd (x : Int) (h0 : 0 ≤ x) (h1 : x < 16) : 0 ≤ hexZ x ∧ hexZ x < 256 := by unfold hexZ; split <;> omega
theorem hexL_oct : ∀ zs : List Int, Oct zs → Oct (hexL zs)
  | [], _ => fun n hn => by simp [hexL] at hn
  | z :: zs, h => fun n hn => by
    have hz := h z (by simp)
    simp only [hexL, List.mem_cons] at hn
    rcases hn with rfl | rfl | hn
    · exact hexZ_bd _ (by omega) (by omega)
    · exact hexZ_bd _ (by omega) (by omega)
    · exact hexL_oct zs (fun n hn => h n (by simp [hn])) n hn

/-- A list of numbers as the cells of a builder. -/
theorem cells_nums (zs : List Int) (h : Oct zs) : zs.map (Value.int .u8) = Lib.byteCells (zs.map fun n => UInt8.ofNat n.toNat) := by
  unfold Lib.byteCells
  rw [List.map_map]
  refine List.map_congr_left fun n hn => ?_
  have := h n hn
  have e : ((UInt8.ofNat n.toNat).toNat : Int) = n := by simp; omega
  simp only [Function.comp_apply, e]

theorem digit_at (x : Int) (h0 : 0 ≤ x) (h1 : x < 16) (w : World) : (Instr.index 9 (.string ⟨#[48, 49, 50, 51, 52, 53, 54, 55, 56, 57, 97, 98, 99, 100, 101, 102]⟩) (.int .u8 x)).run Tryz.prog w = .ok (.int .u8 (hexZ x)) w := by
  have : x = 0 ∨ x = 1 ∨ x = 2 ∨ x = 3 ∨ x = 4 ∨ x = 5 ∨ x = 6 ∨ x = 7 ∨ x = 8 ∨ x = 9 ∨ x = 10 ∨ x = 11 ∨ x = 12 ∨ x = 13 ∨ x = 14 ∨ x = 15 := by omega
  rcases this with rfl | rfl | rfl | rfl | rfl | rfl | rfl | rfl | rfl | rfl | rfl | rfl | rfl | rfl | rfl | rfl <;> (simp [go_sem, hexZ]; rfl)

theorem and15 (x : Int) (h0 : 0 ≤ x) (h1 : x < 256) : bits .and .u8 x 15 = x % 16 := by
  obtain ⟨m, rfl⟩ := Int.eq_ofNat_of_zero_le h0
  have h := u8_and_nat m 15 (by omega) (by decide)
  rw [show ((15 : Nat) : Int) = (15 : Int) from rfl] at h
  rw [h, show m &&& 15 = m % 16 from Nat.and_two_pow_sub_one_eq_mod m 4]; omega

set_option maxHeartbeats 4000000 in
set_option maxRecDepth 100000 in
theorem hexText_any (a : Option Addr) (len cap : Nat) (zs : List Int) (w : World) (hr : Row w a len zs) (hl : len ≤ 1048576) :
    Calls Tryz.prog 46 #[.slice a len cap] w fun e w' => e = .returned (.string (strOfNums (hexL zs))) ∧ Below w.heap.size w w' := by
  have hs := hr.size
  go_enter Tryz.func46, Tryz.ntmps46
  go_wp2_with fail
  have hb0 := builder_new w
  have hw0 : Below w.heap.size w (w.alloc (.cells #[.pointer none, .slice none 0 0] 99)) := Below.al (Below.refl _ _) _
  go_loopw [8] (fun i wr => ∃ k : Nat, k ≤ len ∧ i = .int .i64 (k : Int) ∧ Below w.heap.size w wr ∧ Lib.IsBuilder 99 5 w.heap.size w.heap.size ((hexL (zs.take k)).map (Value.int .u8)) wr)
    (fun i _ => len - (intOf i).toNat)
  case atStart => exact ⟨0, Nat.zero_le _, rfl, hw0, hb0⟩
  case round =>
    obtain ⟨k, hk, rfl, hb, hB⟩ := hrel
    by_cases hlt : k < len
    · obtain ⟨b, off, rfl, hc⟩ := (hr.next hb).at_ (by omega)
      have hck := hc k hlt
      have ho := hr.oct.getD k
      have hx : zs.take (k + 1) = zs.take k ++ [zs.getD k 0] := by
        rw [List.take_succ_eq_append_getElem (by omega)]
        simp [List.getD_eq_getElem?_getD, show k < zs.length by omega]
      have hlt' : (k : Int) < (len : Int) := by omega
      have hn : ((hexL (zs.take k)).map (Value.int .u8)).length ≤ 2097152 := by
        rw [List.length_map, hexL_length, List.length_take]; omega
      have X : Hid (zs.take (k + 1) = zs.take k ++ [zs.getD k 0]) := hx
      generalize zs.getD k 0 = z at *
      have d1 := digit_at (z / 16) (by omega) (by omega)
      have d2 := digit_at (z % 16) (by omega) (by omega)
      have a15 := and15 z ho.1 ho.2
      clear hc hx hw0 hb0
      go_wp2_with fail
      refine (writeByte_any _ _ _ _ _ hB (by omega) hb.size).mono ?_
      rintro e w1 ⟨rfl, hB1, hb1⟩
      go_wp2_with fail
      refine (writeByte_any _ _ _ _ _ hB1 (by rw [List.length_append]; simp only [List.length_singleton]; omega) (Nat.le_trans hb.size hb1.size)).mono ?_
      rintro e w2 ⟨rfl, hB2, hb2⟩
      go_wp2_with fail
      refine ⟨⟨k + 1, by omega, by go_num, (hb.trans hb1).trans hb2, ?_⟩, by simp [intOf]; omega⟩
      rw [X.out, hexL_snoc, List.map_append]
      simpa [List.append_assoc] using hB2
    · obtain rfl : k = len := by omega
      have hlt' : ¬ (k : Int) < (k : Int) := by omega
      rw [List.take_of_length_le (by omega), cells_nums _ (hexL_oct _ hr.oct)] at hB
      clear hw0 hb0
      go_wp2_with fail
      refine (Tryz.Builder_String_any _ _ _ _ hB hb.size).mono ?_
      rintro e w1 ⟨rfl, hb1⟩
      go_wp2_with fail
      go_ret
      exact ⟨rfl, hb.trans hb1⟩
#print axioms hexText_any
end Go.Proofs.YtkfmmpolcjbnbaaGreatDoor
namespace Go.Proofs.YtkfmmpolcjbnbaaGreatDoor
open Pl Go.RowKit Go.Sort

theorem reverse_any (g len cap : Nat) (zs : List Int) (w0 w : World) (h : Own w g len zs) (hb : Below w0.heap.size w0 w) (hg : w0.heap.size ≤ g) (hl : len ≤ 16777216) :
    Calls Tryz.prog 73 #[.slice (some ⟨g, 0, none⟩) len cap] w fun e w' => e = .returned (.tuple #[]) ∧ Row w' (some ⟨g, 0, none⟩) len zs.reverse ∧ Below w0.heap.size w0 w' := by
  have hsz : zs.toArray.size = len := by simp [h.size]
  have hr := reverse_arr g 0 cap zs.toArray w h.holds (by omega)
  rw [hsz] at hr
  refine hr.mono ?_
  rintro e w' ⟨rfl, n, rfl⟩
  refine ⟨rfl, ⟨by simp [h.size], fun x hx => h.oct x (by simpa using hx), fun _ => ⟨g, 0, rfl, fun i hi => ?_⟩⟩, Lib.below_putRow hb hg⟩
  have hc := cell?_putRow (Value.int .u8) (Sort.ahead w n) g 0 zs.toArray zs.toArray.reverse (holds_ahead (Value.int .u8) w n g 0 zs.toArray h.holds) (by simp) i (by simp [h.size]; exact hi)
  rw [hc]
  have hi' : i < zs.length := by rw [h.size]; exact hi
  simp [List.getD_eq_getElem?_getD, hi', getElem!_pos]

/-- A number as a byte. -/
def byteL (zs : List Int) : List UInt8 := zs.map fun n => UInt8.ofNat n.toNat
theorem strOfNums_str (zs : List Int) : strOfNums zs = str (byteL zs) := rfl

/-- The text of a float: its bytes, and its word as one of 64 bits. -/
def fltS (zs : List Int) (X : Nat) : List UInt8 :=
  if 9218868437227405312 < X % 9223372036854775808 then [110, 97, 110, 58] ++ byteL (hexL zs.reverse)
  else if X / 9223372036854775808 = 1 then 45 :: sizeS (X % 9223372036854775808) else sizeS (X % 9223372036854775808)

theorem fword_lt (zs : List Int) (X : Nat) (ho : Oct zs) (h : FWord zs X) : X < 18446744073709551616 := by
  have hb := num_bd zs ho
  rcases h with ⟨hl, rfl⟩ | ⟨hl, R, rfl, hc⟩
  · rw [hl] at hb
    simp only [Nat.reduceMul, Int.reducePow] at hb
    omega
  · rw [hl] at hb
    simp only [Nat.reduceMul, Int.reducePow] at hb
    omega

theorem sizeS_len (R : Nat) (h : R < 9223372036854775808) : (str (sizeS R)).size ≤ 50 := by
  have ho : ∀ m e, m ≠ 0 → m < 18446744073709551616 → -3000 ≤ e → e ≤ 3000 → (str (oddS m e)).size ≤ 50 := by
    intro m e hm hm' h0 h1
    obtain ⟨_, hz⟩ := Lib.lowest_bit 64 m hm hm'
    have h3 : m / 2 ^ Lib.ctz 64 m < 18446744073709551616 := Nat.lt_of_le_of_lt (Nat.div_le_self _ _) hm'
    have z1 := dec_len _ h3
    have z2 := itoa_len (e + (Lib.ctz 64 m : Int)) (by omega) (by omega)
    change (Lib.decDigits _).toArray.size ≤ 20 at z1
    change (Lib.itoa _).toArray.size ≤ 21 at z2
    show (oddS m e).toArray.size ≤ 50
    unfold oddS
    simp only [List.size_toArray, List.length_append, List.length_cons] at z1 z2 ⊢
    omega
  unfold sizeS
  split
  · decide
  split
  · decide
  split
  · exact ho _ _ (by assumption) (by omega) (by decide) (by decide)
  · exact ho _ _ (by omega) (by omega) (by omega) (by omega)

set_option maxHeartbeats 2000000 in
set_option maxRecDepth 100000 in
theorem floatText_any (a : Option Addr) (len cap : Nat) (zs : List Int) (w : World) (hr : Row w a len zs) (hT : Tabs w) (hl : len = 4 ∨ len = 8) :
    Calls Tryz.prog 44 #[.slice a len cap] w fun e w' => ∃ X, FWord zs X ∧ e = .returned (.string (str (fltS zs X))) ∧ Below w.heap.size w w' := by
  go_enter Tryz.func44, Tryz.ntmps44
  go_wp2_with fail
  refine (floatOf_any _ _ _ zs _ hr hT.t64 hl).mono ?_
  rintro e w1 ⟨X, rfl, hX, hb1⟩
  have hlt := fword_lt zs X hr.oct hX
  have T1 := hT.next hb1
  have r1 := hr.next hb1
  by_cases hn : 9218868437227405312 < X % 9223372036854775808
  · have HN : Hid ((Ieee.double.order X X != some .eq) = true) := by show (Ieee.double.order X X != some .eq) = true; rw [order_self]; simp [hn]
    have HF : Hid (fltS zs X = [110, 97, 110, 58] ++ byteL (hexL zs.reverse)) := by show fltS zs X = _; unfold fltS; rw [if_pos hn]
    have hl8 : len ≤ 8 := by omega
    have hl0 : 0 < len := by omega
    obtain ⟨s1, HS1⟩ : ∃ s, Hid (strOfNums (hexL zs.reverse) = s) := ⟨_, rfl⟩
    have z1 : s1.size ≤ 16 := by
      rw [← HS1.out, strOfNums_size, hexL_length, List.length_reverse, hr.size]; omega
    have ad := add_run ⟨#[110, 97, 110, 58]⟩ s1 (by have : (⟨#[110, 97, 110, 58]⟩ : ByteArray).size = 4 := rfl; omega)
    clear hn z1 hl
    go_wp2_with fail
    refine (isNaN_any X _).mono ?_
    rw [HN.out]
    rintro e w ⟨rfl, rfl⟩
    go_wp2_with fail
    refine (clone_any _ _ _ zs _ r1 hl0 (by omega)).mono ?_
    rintro e w2 ⟨g, cp, rfl, hc1, hc2, hg, ho, hb2⟩
    go_wp2_with fail
    refine (reverse_any g len cp zs _ _ ho hb2 hg (by omega)).mono ?_
    rintro e w3 ⟨rfl, r3, hb3⟩
    go_wp2_with fail
    refine (hexText_any _ _ _ zs.reverse _ r3 (by omega)).mono ?_
    rw [HS1.out]
    rintro e w4 ⟨rfl, hb4⟩
    go_wp2_with fail
    go_ret
    refine ⟨X, hX, ret_str ?_, Below.andThen (Below.andThen hb1 hb3) hb4⟩
    rw [HF.out, ← HS1.out, strOfNums_str, ← str_append]
    rfl
  have HN : Hid ((Ieee.double.order X X != some .eq) = false) := by show (Ieee.double.order X X != some .eq) = false; rw [order_self]; simp; omega
  have hR : X % 9223372036854775808 ≤ 9218868437227405312 := by omega
  have hz := sizeS_len (X % 9223372036854775808) (by omega)
  obtain ⟨s1, HS1⟩ : ∃ s, Hid (str (sizeS (X % 9223372036854775808)) = s) := ⟨_, rfl⟩
  rw [HS1.out] at hz
  by_cases hs : X / 9223372036854775808 = 1
  · have hs' : ((X : Int) / 9223372036854775808 == 1) = true := by simp; omega
    have HF : Hid (fltS zs X = 45 :: sizeS (X % 9223372036854775808)) := by show fltS zs X = _; unfold fltS; rw [if_neg hn, if_pos hs]
    have ad := add_run ⟨#[45]⟩ s1 (by have : (⟨#[45]⟩ : ByteArray).size = 1 := rfl; omega)
    clear hn hz hl hs
    go_wp2_with fail
    refine (isNaN_any X _).mono ?_
    rw [HN.out]
    rintro e w ⟨rfl, rfl⟩
    go_wp2_with fail
    refine (signBit_any X _).mono ?_
    rintro e w ⟨rfl, rfl⟩
    go_wp2_with fail
    refine (abs_any X _ hlt).mono ?_
    rintro e w ⟨rfl, rfl⟩
    go_wp2_with fail
    refine (sizeText_any _ _ hR T1).mono ?_
    rw [HS1.out]
    rintro e w2 ⟨rfl, hb2⟩
    go_wp2_with fail
    go_ret
    refine ⟨X, hX, ret_str ?_, Below.andThen hb1 hb2⟩
    rw [HF.out, ← HS1.out, show (⟨#[45]⟩ : ByteArray) = str [45] from rfl, str_append]
    rfl
  · have hs' : ((X : Int) / 9223372036854775808 == 1) = false := by simp; omega
    have HF : Hid (fltS zs X = sizeS (X % 9223372036854775808)) := by show fltS zs X = _; unfold fltS; rw [if_neg hn, if_neg hs]
    have ad := add_run ⟨#[]⟩ s1 (by have : (⟨#[]⟩ : ByteArray).size = 0 := rfl; omega)
    clear hn hz hl hs
    go_wp2_with fail
    refine (isNaN_any X _).mono ?_
    rw [HN.out]
    rintro e w ⟨rfl, rfl⟩
    go_wp2_with fail
    refine (signBit_any X _).mono ?_
    rintro e w ⟨rfl, rfl⟩
    go_wp2_with fail
    refine (abs_any X _ hlt).mono ?_
    rintro e w ⟨rfl, rfl⟩
    go_wp2_with fail
    refine (sizeText_any _ _ hR T1).mono ?_
    rw [HS1.out]
    rintro e w2 ⟨rfl, hb2⟩
    go_wp2_with fail
    go_ret
    refine ⟨X, hX, ret_str ?_, Below.andThen hb1 hb2⟩
    rw [HF.out, ← HS1.out, show (⟨#[]⟩ : ByteArray) = str [] from rfl, str_append]
    rfl
#print axioms floatText_any
end Go.Proofs.YtkfmmpolcjbnbaaGreatDoor
namespace Go.Proofs.YtkfmmpolcjbnbaaGreatDoor
open Pl Go.RowKit

/-- What a reader gives up with. -/
def bad : List PanicEntry := [{ v := .iface 9 (.string ⟨#[116, 121, 112, 101, 115, 58, 32, 97, 32, 116, 101, 120, 116, 32, 116, 104, 97, 116, 32, 105, 115, 32, 110, 111, 32, 118, 97, 108, 117, 101, 32, 111, 102, 32, 116, 104, 101, 32, 116, 121, 112, 101]⟩), recovered := false }]

theorem must_false (w : World) : Calls Tryz.prog 53 #[.bool false] w fun e w' => e = .panicked bad ∧ w' = w := by
  go_enter Tryz.func53, Tryz.ntmps53
  go_wp2
  exact ⟨rfl, rfl, rfl⟩

/-- A digit more of a number that is at most that; none: it is no digit, or too much. -/
def decStep (most n c : Nat) : Option Nat := if (48 ≤ c ∧ c ≤ 57) ∧ (c - 48 ≤ most ∧ n ≤ (most - (c - 48)) / 10) then some (10 * n + (c - 48)) else none
/-- Digits more. -/
def decFold (most : Nat) : Nat → List UInt8 → Option Nat
  | n, [] => some n
  | n, c :: l => (decStep most n c.toNat).bind fun m => decFold most m l
/-- The number that decimal digits without noughts ahead tell, at most that. -/
def decV (most : Nat) (l : List UInt8) : Option Nat := if l = [48] ∨ (l ≠ [] ∧ l.head? ≠ some 48) then decFold most 0 l else none

/-- How a reader of a number ends. -/
def endU : Option Nat → Ending
  | some n => .returned (.int .u64 (n : Int))
  | none => .panicked bad

theorem decFold_snoc (most : Nat) : ∀ (l : List UInt8) (n : Nat) (c : UInt8), decFold most n (l ++ [c]) = (decFold most n l).bind fun m => decStep most m c.toNat
  | [], n, c => by simp [decFold]
  | x :: l, n, c => by
    simp only [List.cons_append, decFold]
    cases decStep most n x.toNat with
    | none => rfl
    | some m => exact decFold_snoc most l m c
theorem decFold_none (most : Nat) : ∀ (l r : List UInt8) (n : Nat), decFold most n l = none → decFold most n (l ++ r) = none
  | [], r, n, h => by simp [decFold] at h
  | x :: l, r, n, h => by
    simp only [List.cons_append, decFold] at h ⊢
    cases hs : decStep most n x.toNat with
    | none => rfl
    | some m => rw [hs] at h; exact decFold_none most l r m h
theorem decStep_le (most n c m : Nat) (h : decStep most n c = some m) : m ≤ most := by
  unfold decStep at h
  split at h
  · simp at h; omega
  · simp at h
theorem decFold_le (most : Nat) : ∀ (l : List UInt8) (n m : Nat), n ≤ most → decFold most n l = some m → m ≤ most
  | [], n, m, hn, h => by simp [decFold] at h; omega
  | c :: l, n, m, hn, h => by
    simp only [decFold] at h
    cases hs : decStep most n c.toNat with
    | none => rw [hs] at h; simp at h
    | some q => rw [hs] at h; exact decFold_le most l q m (decStep_le most n c.toNat q hs) h

theorem index_run (l : List UInt8) (k : Nat) (h : k < l.length) (w : World) : (Instr.index 9 (.string (str l)) (.int .i64 (k : Int))).run Tryz.prog w = .ok (.int .u8 ((l[k].toNat : Nat) : Int)) w := by
  have hs : (str l).size = l.length := by unfold str; simp [ByteArray.size]
  simp [go_sem, hs, h]
  rfl

theorem str_facts (l : List UInt8) : ∃ s, Hid (str l = s) ∧ s.toList = l ∧ s.size = l.length ∧ (∀ (k : Nat) (h : k < l.length) (w : World), (Instr.index 9 (.string s) (.int .i64 (k : Int))).run Tryz.prog w = .ok (.int .u8 ((l[k].toNat : Nat) : Int)) w) :=
  ⟨str l, rfl, by rw [Lib.toList_data]; rfl, by unfold str; simp [ByteArray.size], fun k h w => index_run l k h w⟩

theorem decV_bad (most : Nat) (l : List UInt8) (h : ¬ (l = [48] ∨ (l ≠ [] ∧ l.head? ≠ some 48))) : decV most l = none := by unfold decV; rw [if_neg h]
theorem decV_good (most : Nat) (l : List UInt8) (h : l = [48] ∨ (l ≠ [] ∧ l.head? ≠ some 48)) : decV most l = decFold most 0 l := by unfold decV; rw [if_pos h]

set_option maxHeartbeats 4000000 in
set_option maxRecDepth 100000 in
theorem decimal_any (l : List UInt8) (most : Nat) (w : World) (hm : most < 18446744073709551616) (hl : l.length ≤ 1000000) :
    Calls Tryz.prog 55 #[.string (str l), .int .u64 (most : Int)] w fun e w' => e = endU (decV most l) ∧ w' = w := by
  obtain ⟨s, HS, htl, hsz, hix⟩ := str_facts l
  have HX : Hid (∀ (k : Nat) (h : k < l.length) (w : World), (Instr.index 9 (.string s) (.int .i64 (k : Int))).run Tryz.prog w = .ok (.int .u8 ((l[k].toNat : Nat) : Int)) w) := hix
  rw [HS.out]
  clear hix
  by_cases hg : l = [48] ∨ (l ≠ [] ∧ l.head? ≠ some 48)
  rotate_left
  · have HE : Hid (endU (decV most l) = .panicked bad) := by show _ = _; rw [decV_bad most l hg]; rfl
    rw [HE.out]
    cases l with
    | nil =>
      clear hg HX hsz
      go_enter Tryz.func55, Tryz.ntmps55
      go_wp2_with fail
      refine (must_false _).mono ?_
      rintro e w ⟨rfl, rfl⟩
      go_wp2_with fail
      exact ⟨rfl, rfl, rfl⟩
    | cons c r =>
      have hc : c = 48 := by
        rcases Classical.em (c = 48) with h | h
        · exact h
        · exact absurd (.inr ⟨by simp, by simpa using h⟩) hg
      subst hc
      cases r with
      | nil => exact absurd (.inl rfl) hg
      | cons y r =>
      have x0 := HX.out 0 (by simp)
      have x0' : ∀ w : World, (Instr.index 9 (.string s) (.int .i64 0)).run Tryz.prog w = .ok (.int .u8 48) w := x0
      clear hg HX hsz x0
      go_enter Tryz.func55, Tryz.ntmps55
      go_wp2_with fail
      refine (must_false _).mono ?_
      rintro e w ⟨rfl, rfl⟩
      go_wp2_with fail
      exact ⟨rfl, rfl, rfl⟩
  have HV : Hid (decV most l = decFold most 0 l) := decV_good most l hg
  rw [HV.out]
  have step : (l = [48]) ∨ (¬ l = [48] ∧ ∃ c r, l = c :: r ∧ c ≠ 48) := by
    by_cases h : l = [48]
    · exact .inl h
    · refine .inr ⟨h, ?_⟩
      rcases hg with h' | ⟨h1, h2⟩
      · exact absurd h' h
      · cases l with
        | nil => exact absurd rfl h1
        | cons c r => exact ⟨c, r, rfl, by simpa using h2⟩
  clear hg
  rcases step with h | ⟨h, c, r, hcr, hc⟩
  · go_enter Tryz.func55, Tryz.ntmps55
    go_wp2_with fail
    refine (must_true _).mono ?_
    rintro e w ⟨rfl, rfl⟩
    clear h
    go_wp2_with fail
    go_loop [5, 22] (fun n i => ∃ k q : Nat, k ≤ l.length ∧ i = .int .i64 (k : Int) ∧ n = .int .u64 (q : Int) ∧ q ≤ most ∧ decFold most 0 (l.take k) = some q) (fun _ i => l.length - (intOf i).toNat)
    case atStart => exact ⟨0, 0, Nat.zero_le _, rfl, rfl, Nat.zero_le _, rfl⟩
    case round =>
      obtain ⟨k, q, hk, rfl, rfl, hq, hf⟩ := hrel
      by_cases hlt : k < l.length
      · have hlt' : (k : Int) < (l.length : Int) := by omega
        have hix := HX.out k hlt
        have hx : l.take (k + 1) = l.take k ++ [l[k]] := by rw [List.take_succ_eq_append_getElem hlt]
        have FS : Hid (decFold most 0 (l.take (k + 1)) = decStep most q l[k].toNat) := by show _ = _; rw [hx, decFold_snoc, hf]; rfl
        have FN : Hid (decStep most q l[k].toNat = none → endU (decFold most 0 l) = .panicked bad) := fun h => by
          have h1 : decFold most 0 (l.take (k + 1)) = none := by rw [FS.out, h]
          have h2 := decFold_none most _ (l.drop (k + 1)) 0 h1
          rw [List.take_append_drop] at h2
          rw [h2]; rfl
        have hb : l[k].toNat < 256 := l[k].toNat_lt
        generalize l[k].toNat = c at *
        clear hx hf
        by_cases d1 : 48 ≤ c ∧ c ≤ 57
        rotate_left
        · have HE : Hid (endU (decFold most 0 l) = .panicked bad) := FN.out (by unfold decStep; rw [if_neg (by intro h; exact d1 h.1)])
          have sp : (¬ (48 : Int) ≤ (c : Int)) ∨ ((48 : Int) ≤ (c : Int) ∧ ¬ (c : Int) ≤ 57) := by omega
          clear d1 FN FS
          rcases sp with g1 | ⟨g1, g2⟩
          all_goals
            go_wp2_with fail
            refine (must_false _).mono ?_
            rintro e w ⟨rfl, rfl⟩
            go_wp2_with fail
            first | exact ⟨rfl, HE.out.symm, rfl⟩ | exact ⟨HE.out.symm, rfl, rfl⟩ | exact ⟨⟨HE.out.symm, rfl⟩, rfl⟩
        have g1 : (48 : Int) ≤ (c : Int) := by omega
        have g2 : (c : Int) ≤ 57 := by omega
        have w1 : IntKind.u8.wrap ((c : Int) - 48) = (c : Int) - 48 := by rw [IntKind.wrap_u8]; omega
        have w2 : IntKind.u64.wrap ((c : Int) - 48) = (c : Int) - 48 := u64_wrap_id _ (by omega) (by omega)
        by_cases d2 : c - 48 ≤ most ∧ q ≤ (most - (c - 48)) / 10
        rotate_left
        · have HE : Hid (endU (decFold most 0 l) = .panicked bad) := FN.out (by unfold decStep; rw [if_neg (by intro h; exact d2 h.2)])
          have sp : (¬ (c : Int) - 48 ≤ (most : Int)) ∨ ((c : Int) - 48 ≤ (most : Int) ∧ IntKind.u64.wrap ((most : Int) - ((c : Int) - 48)) = (most : Int) - ((c : Int) - 48) ∧ IntKind.u64.wrap (((most : Int) - ((c : Int) - 48)) / 10) = ((most : Int) - ((c : Int) - 48)) / 10 ∧ ¬ (q : Int) ≤ ((most : Int) - ((c : Int) - 48)) / 10) := by
            rcases Int.lt_or_le (most : Int) ((c : Int) - 48) with h | h
            · exact .inl (by omega)
            · exact .inr ⟨h, u64_wrap_id _ (by omega) (by omega), u64_wrap_id _ (by omega) (by omega), by omega⟩
          clear d1 d2 FN FS
          rcases sp with g3 | ⟨g3, w3, w4, g4⟩
          all_goals
            go_wp2_with fail
            refine (must_true _).mono ?_
            rintro e w ⟨rfl, rfl⟩
            go_wp2_with fail
            first
              | refine (must_false _).mono ?_
              | (rw [show decide ((q : Int) ≤ ((most : Int) - ((c : Int) - 48)) / 10) = false from by simp; omega]; refine (must_false _).mono ?_)
            rintro e w ⟨rfl, rfl⟩
            go_wp2_with fail
            first | exact ⟨rfl, HE.out.symm, rfl⟩ | exact ⟨HE.out.symm, rfl, rfl⟩ | exact ⟨⟨HE.out.symm, rfl⟩, rfl⟩
        have FV : Hid (decFold most 0 (l.take (k + 1)) = some (10 * q + (c - 48))) := by show _ = _; rw [FS.out]; unfold decStep; rw [if_pos ⟨d1, d2⟩]
        have g3 : (c : Int) - 48 ≤ (most : Int) := by omega
        have w3 : IntKind.u64.wrap ((most : Int) - ((c : Int) - 48)) = (most : Int) - ((c : Int) - 48) := u64_wrap_id _ (by omega) (by omega)
        have w4 : IntKind.u64.wrap (((most : Int) - ((c : Int) - 48)) / 10) = ((most : Int) - ((c : Int) - 48)) / 10 := u64_wrap_id _ (by omega) (by omega)
        have g4 : (q : Int) ≤ ((most : Int) - ((c : Int) - 48)) / 10 := by omega
        have w5 : IntKind.u64.wrap (10 * (q : Int)) = 10 * (q : Int) := u64_wrap_id _ (by omega) (by omega)
        have w6 : IntKind.u64.wrap (10 * (q : Int) + ((c : Int) - 48)) = 10 * (q : Int) + ((c : Int) - 48) := u64_wrap_id _ (by omega) (by omega)
        have hq' : 10 * q + (c - 48) ≤ most := by omega
        clear FN FS d2
        go_wp2_with fail
        refine (must_true _).mono ?_
        rintro e w ⟨rfl, rfl⟩
        go_wp2_with fail
        refine (must_true _).mono ?_
        rintro e w ⟨rfl, rfl⟩
        go_wp2_with fail
        exact ⟨⟨k + 1, 10 * q + (c - 48), by omega, by go_num, congrArg (Value.int .u64) (by omega), hq', FV.out⟩, by simp [intOf]; omega⟩
      · obtain rfl : k = l.length := by omega
        have hlt' : ¬ (l.length : Int) < (l.length : Int) := by omega
        rw [List.take_of_length_le (Nat.le_refl _)] at hf
        have HE : Hid (endU (decFold most 0 l) = .returned (.int .u64 (q : Int))) := by show _ = _; rw [hf]; rfl
        clear hf
        go_wp2_with fail
        go_ret
        exact ⟨HE.out.symm, rfl⟩
  · have x0 := HX.out 0 (by rw [hcr]; simp)
    have e0 : l[0]'(by rw [hcr]; simp) = c := by simp [hcr]
    have x0' : ∀ w : World, (Instr.index 9 (.string s) (.int .i64 0)).run Tryz.prog w = .ok (.int .u8 (c.toNat : Int)) w := fun w => by have := x0 w; rw [e0] at this; exact this
    have c48 : ((c.toNat : Int) != 48) = true := by
      simp
      intro h
      exact hc (by have : c.toNat = 48 := by omega
                   exact UInt8.toNat_inj.1 this)
    have hne : ¬ l = [] := by rw [hcr]; simp
    clear hcr e0 x0 hc
    go_enter Tryz.func55, Tryz.ntmps55
    go_wp2_with fail
    rw [show (l == [48] || !l.isEmpty) = true from by cases l with | nil => exact absurd rfl hne | cons => simp]
    refine (must_true _).mono ?_
    rintro e w ⟨rfl, rfl⟩
    go_wp2_with fail
    go_loop [5, 22] (fun n i => ∃ k q : Nat, k ≤ l.length ∧ i = .int .i64 (k : Int) ∧ n = .int .u64 (q : Int) ∧ q ≤ most ∧ decFold most 0 (l.take k) = some q) (fun _ i => l.length - (intOf i).toNat)
    case atStart => exact ⟨0, 0, Nat.zero_le _, rfl, rfl, Nat.zero_le _, rfl⟩
    case round =>
      obtain ⟨k, q, hk, rfl, rfl, hq, hf⟩ := hrel
      by_cases hlt : k < l.length
      · have hlt' : (k : Int) < (l.length : Int) := by omega
        have hix := HX.out k hlt
        have hx : l.take (k + 1) = l.take k ++ [l[k]] := by rw [List.take_succ_eq_append_getElem hlt]
        have FS : Hid (decFold most 0 (l.take (k + 1)) = decStep most q l[k].toNat) := by show _ = _; rw [hx, decFold_snoc, hf]; rfl
        have FN : Hid (decStep most q l[k].toNat = none → endU (decFold most 0 l) = .panicked bad) := fun h => by
          have h1 : decFold most 0 (l.take (k + 1)) = none := by rw [FS.out, h]
          have h2 := decFold_none most _ (l.drop (k + 1)) 0 h1
          rw [List.take_append_drop] at h2
          rw [h2]; rfl
        have hb : l[k].toNat < 256 := l[k].toNat_lt
        generalize l[k].toNat = c at *
        clear hx hf
        by_cases d1 : 48 ≤ c ∧ c ≤ 57
        rotate_left
        · have HE : Hid (endU (decFold most 0 l) = .panicked bad) := FN.out (by unfold decStep; rw [if_neg (by intro h; exact d1 h.1)])
          have sp : (¬ (48 : Int) ≤ (c : Int)) ∨ ((48 : Int) ≤ (c : Int) ∧ ¬ (c : Int) ≤ 57) := by omega
          clear d1 FN FS
          rcases sp with g1 | ⟨g1, g2⟩
          all_goals
            go_wp2_with fail
            refine (must_false _).mono ?_
            rintro e w ⟨rfl, rfl⟩
            go_wp2_with fail
            first | exact ⟨rfl, HE.out.symm, rfl⟩ | exact ⟨HE.out.symm, rfl, rfl⟩ | exact ⟨⟨HE.out.symm, rfl⟩, rfl⟩
        have g1 : (48 : Int) ≤ (c : Int) := by omega
        have g2 : (c : Int) ≤ 57 := by omega
        have w1 : IntKind.u8.wrap ((c : Int) - 48) = (c : Int) - 48 := by rw [IntKind.wrap_u8]; omega
        have w2 : IntKind.u64.wrap ((c : Int) - 48) = (c : Int) - 48 := u64_wrap_id _ (by omega) (by omega)
        by_cases d2 : c - 48 ≤ most ∧ q ≤ (most - (c - 48)) / 10
        rotate_left
        · have HE : Hid (endU (decFold most 0 l) = .panicked bad) := FN.out (by unfold decStep; rw [if_neg (by intro h; exact d2 h.2)])
          have sp : (¬ (c : Int) - 48 ≤ (most : Int)) ∨ ((c : Int) - 48 ≤ (most : Int) ∧ IntKind.u64.wrap ((most : Int) - ((c : Int) - 48)) = (most : Int) - ((c : Int) - 48) ∧ IntKind.u64.wrap (((most : Int) - ((c : Int) - 48)) / 10) = ((most : Int) - ((c : Int) - 48)) / 10 ∧ ¬ (q : Int) ≤ ((most : Int) - ((c : Int) - 48)) / 10) := by
            rcases Int.lt_or_le (most : Int) ((c : Int) - 48) with h | h
            · exact .inl (by omega)
            · exact .inr ⟨h, u64_wrap_id _ (by omega) (by omega), u64_wrap_id _ (by omega) (by omega), by omega⟩
          clear d1 d2 FN FS
          rcases sp with g3 | ⟨g3, w3, w4, g4⟩
          all_goals
            go_wp2_with fail
            refine (must_true _).mono ?_
            rintro e w ⟨rfl, rfl⟩
            go_wp2_with fail
            first
              | refine (must_false _).mono ?_
              | (rw [show decide ((q : Int) ≤ ((most : Int) - ((c : Int) - 48)) / 10) = false from by simp; omega]; refine (must_false _).mono ?_)
            rintro e w ⟨rfl, rfl⟩
            go_wp2_with fail
            first | exact ⟨rfl, HE.out.symm, rfl⟩ | exact ⟨HE.out.symm, rfl, rfl⟩ | exact ⟨⟨HE.out.symm, rfl⟩, rfl⟩
        have FV : Hid (decFold most 0 (l.take (k + 1)) = some (10 * q + (c - 48))) := by show _ = _; rw [FS.out]; unfold decStep; rw [if_pos ⟨d1, d2⟩]
        have g3 : (c : Int) - 48 ≤ (most : Int) := by omega
        have w3 : IntKind.u64.wrap ((most : Int) - ((c : Int) - 48)) = (most : Int) - ((c : Int) - 48) := u64_wrap_id _ (by omega) (by omega)
        have w4 : IntKind.u64.wrap (((most : Int) - ((c : Int) - 48)) / 10) = ((most : Int) - ((c : Int) - 48)) / 10 := u64_wrap_id _ (by omega) (by omega)
        have g4 : (q : Int) ≤ ((most : Int) - ((c : Int) - 48)) / 10 := by omega
        have w5 : IntKind.u64.wrap (10 * (q : Int)) = 10 * (q : Int) := u64_wrap_id _ (by omega) (by omega)
        have w6 : IntKind.u64.wrap (10 * (q : Int) + ((c : Int) - 48)) = 10 * (q : Int) + ((c : Int) - 48) := u64_wrap_id _ (by omega) (by omega)
        have hq' : 10 * q + (c - 48) ≤ most := by omega
        clear FN FS d2
        go_wp2_with fail
        refine (must_true _).mono ?_
        rintro e w ⟨rfl, rfl⟩
        go_wp2_with fail
        refine (must_true _).mono ?_
        rintro e w ⟨rfl, rfl⟩
        go_wp2_with fail
        exact ⟨⟨k + 1, 10 * q + (c - 48), by omega, by go_num, congrArg (Value.int .u64) (by omega), hq', FV.out⟩, by simp [intOf]; omega⟩
      · obtain rfl : k = l.length := by omega
        have hlt' : ¬ (l.length : Int) < (l.length : Int) := by omega
        rw [List.take_of_length_le (Nat.le_refl _)] at hf
        have HE : Hid (endU (decFold most 0 l) = .returned (.int .u64 (q : Int))) := by show _ = _; rw [hf]; rfl
        clear hf
        go_wp2_with fail
        go_ret
        exact ⟨HE.out.symm, rfl⟩
#print axioms decimal_any
end Go.Proofs.YtkfmmpolcjbnbaaGreatDoor
