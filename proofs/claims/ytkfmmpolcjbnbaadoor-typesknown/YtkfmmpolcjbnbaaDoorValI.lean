/-
  The readers of numbers: readValue at the types of numbers, and Value.
-/
import Derived.Test.YtkfmmpolcjbnbaaDoorVal
namespace Go.Proofs.YtkfmmpolcjbnbaaDoor
open Pl Go.RowKit

theorem int_sizes (t : Int) (h : kindN t = 2 ∨ kindN t = 3) : sizeN t = 1 ∨ sizeN t = 2 ∨ sizeN t = 3 ∨ sizeN t = 4 ∨ sizeN t = 8 := by
  rcases type_cases t with rfl | rfl | rfl | rfl | rfl | rfl | rfl | rfl | rfl | rfl | rfl | rfl | rfl | rfl | rfl | rfl | rfl | rfl | ⟨h1, _⟩
  all_goals first | decide | (exfalso; revert h; decide) | omega

set_option maxHeartbeats 2000000 in
set_option maxRecDepth 100000 in
theorem readInt_2_1 (l : List UInt8) (W : World) (hl : l.length ≤ 1000000) :
    Calls Tryd.prog 18 #[.int .u8 2, .int .i64 1, .string (str l)] W (ReadsTo W ((sgnV 128 127 l).map fun n => bytesL (n : Int) 1)) := by
  have hd := fun W : World => signedRd_any l 128 127 W (by decide) (by decide) hl
  obtain ⟨sl, HSL, _⟩ := str_facts l
  rw [HSL.out] at hd
  rw [HSL.out]
  cases hv : sgnV 128 127 l with
  | none =>
    rw [hv] at hd
    have HH : Hid (∀ w : World, Calls Tryd.prog 34 #[.string sl, .int .u64 128, .int .u64 127] w fun e w' => e = .panicked bad ∧ w' = w) := hd
    clear hd hv
    go_enter Tryd.func18, Tryd.ntmps18
    go_wp2_with fail
    refine (HH.out _).mono ?_
    rintro e w ⟨rfl, rfl⟩
    go_wp2_with fail
    exact ⟨rfl, rfl, Below.refl _ _⟩
  | some n =>
    rw [hv] at hd
    have HH : Hid (∀ w : World, Calls Tryd.prog 34 #[.string sl, .int .u64 128, .int .u64 127] w fun e w' => e = .returned (.int .u64 (n : Int)) ∧ w' = w) := hd
    clear hd hv
    go_enter Tryd.func18, Tryd.ntmps18
    go_wp2_with fail
    refine (HH.out _).mono ?_
    rintro e w ⟨rfl, rfl⟩
    go_wp2_with fail
    refine (bytesOf_any (n : Int) 1 _ (by omega) (by decide)).mono ?_
    rintro e w2 ⟨v, rfl, hf⟩
    obtain ⟨hr, rfl, hz, hb2⟩ := hf
    go_wp2_with fail
    go_ret
    exact reads_bytes (Below.refl _ _) ⟨hr, rfl, hz, hb2⟩ (by decide)

set_option maxHeartbeats 2000000 in
set_option maxRecDepth 100000 in
theorem readInt_2_2 (l : List UInt8) (W : World) (hl : l.length ≤ 1000000) :
    Calls Tryd.prog 18 #[.int .u8 2, .int .i64 2, .string (str l)] W (ReadsTo W ((sgnV 32768 32767 l).map fun n => bytesL (n : Int) 2)) := by
  have hd := fun W : World => signedRd_any l 32768 32767 W (by decide) (by decide) hl
  obtain ⟨sl, HSL, _⟩ := str_facts l
  rw [HSL.out] at hd
  rw [HSL.out]
  cases hv : sgnV 32768 32767 l with
  | none =>
    rw [hv] at hd
    have HH : Hid (∀ w : World, Calls Tryd.prog 34 #[.string sl, .int .u64 32768, .int .u64 32767] w fun e w' => e = .panicked bad ∧ w' = w) := hd
    clear hd hv
    go_enter Tryd.func18, Tryd.ntmps18
    go_wp2_with fail
    refine (HH.out _).mono ?_
    rintro e w ⟨rfl, rfl⟩
    go_wp2_with fail
    exact ⟨rfl, rfl, Below.refl _ _⟩
  | some n =>
    rw [hv] at hd
    have HH : Hid (∀ w : World, Calls Tryd.prog 34 #[.string sl, .int .u64 32768, .int .u64 32767] w fun e w' => e = .returned (.int .u64 (n : Int)) ∧ w' = w) := hd
    clear hd hv
    go_enter Tryd.func18, Tryd.ntmps18
    go_wp2_with fail
    refine (HH.out _).mono ?_
    rintro e w ⟨rfl, rfl⟩
    go_wp2_with fail
    refine (bytesOf_any (n : Int) 2 _ (by omega) (by decide)).mono ?_
    rintro e w2 ⟨v, rfl, hf⟩
    obtain ⟨hr, rfl, hz, hb2⟩ := hf
    go_wp2_with fail
    go_ret
    exact reads_bytes (Below.refl _ _) ⟨hr, rfl, hz, hb2⟩ (by decide)

set_option maxHeartbeats 2000000 in
set_option maxRecDepth 100000 in
theorem readInt_2_3 (l : List UInt8) (W : World) (hl : l.length ≤ 1000000) :
    Calls Tryd.prog 18 #[.int .u8 2, .int .i64 3, .string (str l)] W (ReadsTo W ((sgnV 8388608 8388607 l).map fun n => bytesL (n : Int) 3)) := by
  have hd := fun W : World => signedRd_any l 8388608 8388607 W (by decide) (by decide) hl
  obtain ⟨sl, HSL, _⟩ := str_facts l
  rw [HSL.out] at hd
  rw [HSL.out]
  cases hv : sgnV 8388608 8388607 l with
  | none =>
    rw [hv] at hd
    have HH : Hid (∀ w : World, Calls Tryd.prog 34 #[.string sl, .int .u64 8388608, .int .u64 8388607] w fun e w' => e = .panicked bad ∧ w' = w) := hd
    clear hd hv
    go_enter Tryd.func18, Tryd.ntmps18
    go_wp2_with fail
    refine (HH.out _).mono ?_
    rintro e w ⟨rfl, rfl⟩
    go_wp2_with fail
    exact ⟨rfl, rfl, Below.refl _ _⟩
  | some n =>
    rw [hv] at hd
    have HH : Hid (∀ w : World, Calls Tryd.prog 34 #[.string sl, .int .u64 8388608, .int .u64 8388607] w fun e w' => e = .returned (.int .u64 (n : Int)) ∧ w' = w) := hd
    clear hd hv
    go_enter Tryd.func18, Tryd.ntmps18
    go_wp2_with fail
    refine (HH.out _).mono ?_
    rintro e w ⟨rfl, rfl⟩
    go_wp2_with fail
    refine (bytesOf_any (n : Int) 3 _ (by omega) (by decide)).mono ?_
    rintro e w2 ⟨v, rfl, hf⟩
    obtain ⟨hr, rfl, hz, hb2⟩ := hf
    go_wp2_with fail
    go_ret
    exact reads_bytes (Below.refl _ _) ⟨hr, rfl, hz, hb2⟩ (by decide)

set_option maxHeartbeats 2000000 in
set_option maxRecDepth 100000 in
theorem readInt_2_4 (l : List UInt8) (W : World) (hl : l.length ≤ 1000000) :
    Calls Tryd.prog 18 #[.int .u8 2, .int .i64 4, .string (str l)] W (ReadsTo W ((sgnV 2147483648 2147483647 l).map fun n => bytesL (n : Int) 4)) := by
  have hd := fun W : World => signedRd_any l 2147483648 2147483647 W (by decide) (by decide) hl
  obtain ⟨sl, HSL, _⟩ := str_facts l
  rw [HSL.out] at hd
  rw [HSL.out]
  cases hv : sgnV 2147483648 2147483647 l with
  | none =>
    rw [hv] at hd
    have HH : Hid (∀ w : World, Calls Tryd.prog 34 #[.string sl, .int .u64 2147483648, .int .u64 2147483647] w fun e w' => e = .panicked bad ∧ w' = w) := hd
    clear hd hv
    go_enter Tryd.func18, Tryd.ntmps18
    go_wp2_with fail
    refine (HH.out _).mono ?_
    rintro e w ⟨rfl, rfl⟩
    go_wp2_with fail
    exact ⟨rfl, rfl, Below.refl _ _⟩
  | some n =>
    rw [hv] at hd
    have HH : Hid (∀ w : World, Calls Tryd.prog 34 #[.string sl, .int .u64 2147483648, .int .u64 2147483647] w fun e w' => e = .returned (.int .u64 (n : Int)) ∧ w' = w) := hd
    clear hd hv
    go_enter Tryd.func18, Tryd.ntmps18
    go_wp2_with fail
    refine (HH.out _).mono ?_
    rintro e w ⟨rfl, rfl⟩
    go_wp2_with fail
    refine (bytesOf_any (n : Int) 4 _ (by omega) (by decide)).mono ?_
    rintro e w2 ⟨v, rfl, hf⟩
    obtain ⟨hr, rfl, hz, hb2⟩ := hf
    go_wp2_with fail
    go_ret
    exact reads_bytes (Below.refl _ _) ⟨hr, rfl, hz, hb2⟩ (by decide)

set_option maxHeartbeats 2000000 in
set_option maxRecDepth 100000 in
theorem readInt_2_8 (l : List UInt8) (W : World) (hl : l.length ≤ 1000000) :
    Calls Tryd.prog 18 #[.int .u8 2, .int .i64 8, .string (str l)] W (ReadsTo W ((sgnV 9223372036854775808 9223372036854775807 l).map fun n => bytesL (n : Int) 8)) := by
  have hd := fun W : World => signedRd_any l 9223372036854775808 9223372036854775807 W (by decide) (by decide) hl
  obtain ⟨sl, HSL, _⟩ := str_facts l
  rw [HSL.out] at hd
  rw [HSL.out]
  cases hv : sgnV 9223372036854775808 9223372036854775807 l with
  | none =>
    rw [hv] at hd
    have HH : Hid (∀ w : World, Calls Tryd.prog 34 #[.string sl, .int .u64 9223372036854775808, .int .u64 9223372036854775807] w fun e w' => e = .panicked bad ∧ w' = w) := hd
    clear hd hv
    go_enter Tryd.func18, Tryd.ntmps18
    go_wp2_with fail
    refine (HH.out _).mono ?_
    rintro e w ⟨rfl, rfl⟩
    go_wp2_with fail
    exact ⟨rfl, rfl, Below.refl _ _⟩
  | some n =>
    rw [hv] at hd
    have HH : Hid (∀ w : World, Calls Tryd.prog 34 #[.string sl, .int .u64 9223372036854775808, .int .u64 9223372036854775807] w fun e w' => e = .returned (.int .u64 (n : Int)) ∧ w' = w) := hd
    clear hd hv
    go_enter Tryd.func18, Tryd.ntmps18
    go_wp2_with fail
    refine (HH.out _).mono ?_
    rintro e w ⟨rfl, rfl⟩
    go_wp2_with fail
    refine (bytesOf_any (n : Int) 8 _ (by omega) (by decide)).mono ?_
    rintro e w2 ⟨v, rfl, hf⟩
    obtain ⟨hr, rfl, hz, hb2⟩ := hf
    go_wp2_with fail
    go_ret
    exact reads_bytes (Below.refl _ _) ⟨hr, rfl, hz, hb2⟩ (by decide)

set_option maxHeartbeats 2000000 in
set_option maxRecDepth 100000 in
theorem readInt_3_1 (l : List UInt8) (W : World) (hl : l.length ≤ 1000000) :
    Calls Tryd.prog 18 #[.int .u8 3, .int .i64 1, .string (str l)] W (ReadsTo W ((unsV 255 l).map fun n => bytesL (n : Int) 1)) := by
  have hd := fun W : World => unsignedRd_any l 255 W (by decide) hl
  obtain ⟨sl, HSL, _⟩ := str_facts l
  rw [HSL.out] at hd
  rw [HSL.out]
  cases hv : unsV 255 l with
  | none =>
    rw [hv] at hd
    have HH : Hid (∀ w : World, Calls Tryd.prog 35 #[.string sl, .int .u64 255] w fun e w' => e = .panicked bad ∧ w' = w) := hd
    clear hd hv
    go_enter Tryd.func18, Tryd.ntmps18
    go_wp2_with fail
    refine (HH.out _).mono ?_
    rintro e w ⟨rfl, rfl⟩
    go_wp2_with fail
    exact ⟨rfl, rfl, Below.refl _ _⟩
  | some n =>
    rw [hv] at hd
    have HH : Hid (∀ w : World, Calls Tryd.prog 35 #[.string sl, .int .u64 255] w fun e w' => e = .returned (.int .u64 (n : Int)) ∧ w' = w) := hd
    clear hd hv
    go_enter Tryd.func18, Tryd.ntmps18
    go_wp2_with fail
    refine (HH.out _).mono ?_
    rintro e w ⟨rfl, rfl⟩
    go_wp2_with fail
    refine (bytesOf_any (n : Int) 1 _ (by omega) (by decide)).mono ?_
    rintro e w2 ⟨v, rfl, hf⟩
    obtain ⟨hr, rfl, hz, hb2⟩ := hf
    go_wp2_with fail
    go_ret
    exact reads_bytes (Below.refl _ _) ⟨hr, rfl, hz, hb2⟩ (by decide)

set_option maxHeartbeats 2000000 in
set_option maxRecDepth 100000 in
theorem readInt_3_2 (l : List UInt8) (W : World) (hl : l.length ≤ 1000000) :
    Calls Tryd.prog 18 #[.int .u8 3, .int .i64 2, .string (str l)] W (ReadsTo W ((unsV 65535 l).map fun n => bytesL (n : Int) 2)) := by
  have hd := fun W : World => unsignedRd_any l 65535 W (by decide) hl
  obtain ⟨sl, HSL, _⟩ := str_facts l
  rw [HSL.out] at hd
  rw [HSL.out]
  cases hv : unsV 65535 l with
  | none =>
    rw [hv] at hd
    have HH : Hid (∀ w : World, Calls Tryd.prog 35 #[.string sl, .int .u64 65535] w fun e w' => e = .panicked bad ∧ w' = w) := hd
    clear hd hv
    go_enter Tryd.func18, Tryd.ntmps18
    go_wp2_with fail
    refine (HH.out _).mono ?_
    rintro e w ⟨rfl, rfl⟩
    go_wp2_with fail
    exact ⟨rfl, rfl, Below.refl _ _⟩
  | some n =>
    rw [hv] at hd
    have HH : Hid (∀ w : World, Calls Tryd.prog 35 #[.string sl, .int .u64 65535] w fun e w' => e = .returned (.int .u64 (n : Int)) ∧ w' = w) := hd
    clear hd hv
    go_enter Tryd.func18, Tryd.ntmps18
    go_wp2_with fail
    refine (HH.out _).mono ?_
    rintro e w ⟨rfl, rfl⟩
    go_wp2_with fail
    refine (bytesOf_any (n : Int) 2 _ (by omega) (by decide)).mono ?_
    rintro e w2 ⟨v, rfl, hf⟩
    obtain ⟨hr, rfl, hz, hb2⟩ := hf
    go_wp2_with fail
    go_ret
    exact reads_bytes (Below.refl _ _) ⟨hr, rfl, hz, hb2⟩ (by decide)

set_option maxHeartbeats 2000000 in
set_option maxRecDepth 100000 in
theorem readInt_3_3 (l : List UInt8) (W : World) (hl : l.length ≤ 1000000) :
    Calls Tryd.prog 18 #[.int .u8 3, .int .i64 3, .string (str l)] W (ReadsTo W ((unsV 16777215 l).map fun n => bytesL (n : Int) 3)) := by
  have hd := fun W : World => unsignedRd_any l 16777215 W (by decide) hl
  obtain ⟨sl, HSL, _⟩ := str_facts l
  rw [HSL.out] at hd
  rw [HSL.out]
  cases hv : unsV 16777215 l with
  | none =>
    rw [hv] at hd
    have HH : Hid (∀ w : World, Calls Tryd.prog 35 #[.string sl, .int .u64 16777215] w fun e w' => e = .panicked bad ∧ w' = w) := hd
    clear hd hv
    go_enter Tryd.func18, Tryd.ntmps18
    go_wp2_with fail
    refine (HH.out _).mono ?_
    rintro e w ⟨rfl, rfl⟩
    go_wp2_with fail
    exact ⟨rfl, rfl, Below.refl _ _⟩
  | some n =>
    rw [hv] at hd
    have HH : Hid (∀ w : World, Calls Tryd.prog 35 #[.string sl, .int .u64 16777215] w fun e w' => e = .returned (.int .u64 (n : Int)) ∧ w' = w) := hd
    clear hd hv
    go_enter Tryd.func18, Tryd.ntmps18
    go_wp2_with fail
    refine (HH.out _).mono ?_
    rintro e w ⟨rfl, rfl⟩
    go_wp2_with fail
    refine (bytesOf_any (n : Int) 3 _ (by omega) (by decide)).mono ?_
    rintro e w2 ⟨v, rfl, hf⟩
    obtain ⟨hr, rfl, hz, hb2⟩ := hf
    go_wp2_with fail
    go_ret
    exact reads_bytes (Below.refl _ _) ⟨hr, rfl, hz, hb2⟩ (by decide)

set_option maxHeartbeats 2000000 in
set_option maxRecDepth 100000 in
theorem readInt_3_4 (l : List UInt8) (W : World) (hl : l.length ≤ 1000000) :
    Calls Tryd.prog 18 #[.int .u8 3, .int .i64 4, .string (str l)] W (ReadsTo W ((unsV 4294967295 l).map fun n => bytesL (n : Int) 4)) := by
  have hd := fun W : World => unsignedRd_any l 4294967295 W (by decide) hl
  obtain ⟨sl, HSL, _⟩ := str_facts l
  rw [HSL.out] at hd
  rw [HSL.out]
  cases hv : unsV 4294967295 l with
  | none =>
    rw [hv] at hd
    have HH : Hid (∀ w : World, Calls Tryd.prog 35 #[.string sl, .int .u64 4294967295] w fun e w' => e = .panicked bad ∧ w' = w) := hd
    clear hd hv
    go_enter Tryd.func18, Tryd.ntmps18
    go_wp2_with fail
    refine (HH.out _).mono ?_
    rintro e w ⟨rfl, rfl⟩
    go_wp2_with fail
    exact ⟨rfl, rfl, Below.refl _ _⟩
  | some n =>
    rw [hv] at hd
    have HH : Hid (∀ w : World, Calls Tryd.prog 35 #[.string sl, .int .u64 4294967295] w fun e w' => e = .returned (.int .u64 (n : Int)) ∧ w' = w) := hd
    clear hd hv
    go_enter Tryd.func18, Tryd.ntmps18
    go_wp2_with fail
    refine (HH.out _).mono ?_
    rintro e w ⟨rfl, rfl⟩
    go_wp2_with fail
    refine (bytesOf_any (n : Int) 4 _ (by omega) (by decide)).mono ?_
    rintro e w2 ⟨v, rfl, hf⟩
    obtain ⟨hr, rfl, hz, hb2⟩ := hf
    go_wp2_with fail
    go_ret
    exact reads_bytes (Below.refl _ _) ⟨hr, rfl, hz, hb2⟩ (by decide)

set_option maxHeartbeats 2000000 in
set_option maxRecDepth 100000 in
theorem readInt_3_8 (l : List UInt8) (W : World) (hl : l.length ≤ 1000000) :
    Calls Tryd.prog 18 #[.int .u8 3, .int .i64 8, .string (str l)] W (ReadsTo W ((unsV 18446744073709551615 l).map fun n => bytesL (n : Int) 8)) := by
  have hd := fun W : World => unsignedRd_any l 18446744073709551615 W (by decide) hl
  obtain ⟨sl, HSL, _⟩ := str_facts l
  rw [HSL.out] at hd
  rw [HSL.out]
  cases hv : unsV 18446744073709551615 l with
  | none =>
    rw [hv] at hd
    have HH : Hid (∀ w : World, Calls Tryd.prog 35 #[.string sl, .int .u64 18446744073709551615] w fun e w' => e = .panicked bad ∧ w' = w) := hd
    clear hd hv
    go_enter Tryd.func18, Tryd.ntmps18
    go_wp2_with fail
    refine (HH.out _).mono ?_
    rintro e w ⟨rfl, rfl⟩
    go_wp2_with fail
    exact ⟨rfl, rfl, Below.refl _ _⟩
  | some n =>
    rw [hv] at hd
    have HH : Hid (∀ w : World, Calls Tryd.prog 35 #[.string sl, .int .u64 18446744073709551615] w fun e w' => e = .returned (.int .u64 (n : Int)) ∧ w' = w) := hd
    clear hd hv
    go_enter Tryd.func18, Tryd.ntmps18
    go_wp2_with fail
    refine (HH.out _).mono ?_
    rintro e w ⟨rfl, rfl⟩
    go_wp2_with fail
    refine (bytesOf_any (n : Int) 8 _ (by omega) (by decide)).mono ?_
    rintro e w2 ⟨v, rfl, hf⟩
    obtain ⟨hr, rfl, hz, hb2⟩ := hf
    go_wp2_with fail
    go_ret
    exact reads_bytes (Below.refl _ _) ⟨hr, rfl, hz, hb2⟩ (by decide)

theorem valueInt_any (t : Int) (l : List UInt8) (w : World) (hk : kindN t = 2 ∨ kindN t = 3) (hl : l.length ≤ 1000000) (hT : Tabs w) :
    Calls Tryd.prog 8 #[.int .u8 t, .string (str l)] w (ValueTo w (intV t l)) := by
  refine value_of t (str l) (intV t l) w (by omega) hT fun W _ => ?_
  have hs := int_sizes t hk
  unfold intV
  rcases hk with hk | hk
  all_goals rcases hs with hs | hs | hs | hs | hs
  all_goals rw [hk, hs]
  · exact readInt_2_1 l W hl
  · exact readInt_2_2 l W hl
  · exact readInt_2_3 l W hl
  · exact readInt_2_4 l W hl
  · exact readInt_2_8 l W hl
  · exact readInt_3_1 l W hl
  · exact readInt_3_2 l W hl
  · exact readInt_3_3 l W hl
  · exact readInt_3_4 l W hl
  · exact readInt_3_8 l W hl
#print axioms valueInt_any
end Go.Proofs.YtkfmmpolcjbnbaaDoor
