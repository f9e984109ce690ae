/-
  The walk of TypesWhole at the types of numbers with a sign.
-/
import Derived.Test.YteglncddckeegaaGreatDoorWhl3
namespace Go.Proofs.YteglncddckeegaaGreatDoor
open Pl Go.RowKit

set_option maxHeartbeats 2000000 in
set_option maxRecDepth 100000 in
theorem whole_2 (n : Int) (w : World) (_h0 : 0 ≤ n) (_h1 : n < 18446744073709551616) (hT : Tabs w) :
    Calls Tryz.prog 4 #[.int .u8 2, .int .u64 n] w fun e w' => e = .returned (.bool true) ∧ Below w.heap.size w w' := by
  obtain ⟨i0, hi, hz0, hz1, hz2⟩ := info_parts infoByte
  obtain ⟨M, HM⟩ : ∃ M : Nat, n % 256 = (M : Int) := Int.eq_ofNat_of_zero_le (by omega)
  have hM : M < 256 := by omega
  have hw : IntKind.u64.wrap (n * 72057594037927936) / 72057594037927936 = (M : Int) := by rw [IntKind.wrap_u64]; omega
  have TI := text_int 2 M 1 (by decide) (by decide) (by decide) hM
  have IB := int_back 2 M 1 (by decide) (by decide) (by decide) (by decide) hM
  have SW := sg_walk 1 (M : Int) (by decide) (by decide) (by omega) (by show (M : Int) < 256; omega)
  have SB := sgN_bd 1 (M : Int) (by decide) (by decide) (by omega) (by show (M : Int) < 256; omega)
  obtain ⟨q, HQ⟩ : ∃ q, Hid (sgN 1 (M : Int) = q) := ⟨_, rfl⟩
  have HX : Hid (str (txS 2 (bytesL (M : Int) 1)) = str (Lib.itoa q) ∧ txE 2 (bytesL (M : Int) 1) = 0) := by show _ ∧ _; rw [TI.2.2.1 (by decide), HQ.out]; exact ⟨rfl, TI.1⟩
  rw [HQ.out] at IB SW SB
  simp only [Nat.reduceMul, Nat.reduceSub, Int.reducePow] at SW
  have SW2 : wrap64 ((M : Int) * 72057594037927936) / 72057594037927936 = q := by rw [← SW, w64u]
  simp only [Nat.reduceMul, Nat.reduceSub, Nat.reducePow, Nat.reduceAdd] at IB
  have D0 := digits_any M (by omega)
  have D1 := digits_any 128 (by decide)
  have D2 := digits_any 129 (by decide)
  have SG := signed_any q SB.1 SB.2
  have LQ := itoa_length q SB.1 SB.2
  have L1 := dec_length 128 (by decide)
  have L2 := dec_length 129 (by decide)
  have L3 := dec_str 129 (by decide)
  have V0 := fun w hT => valueInt_any 2 (Lib.itoa q) w (by decide) (by omega) hT
  have V1 := fun w hT => valueInt_any 2 (Lib.decDigits 128) w (by decide) (by omega) hT
  have V2 := fun w hT => valueInt_any 2 (45 :: Lib.decDigits 129) w (by decide) (by rw [List.length_cons]; omega) hT
  rw [IB.1] at V0
  rw [IB.2.1] at V1
  rw [IB.2.2] at V2
  obtain ⟨s0, HS0⟩ : ∃ s, Hid (str (Lib.decDigits M) = s) := ⟨_, rfl⟩
  obtain ⟨sq, HSQ⟩ : ∃ s, Hid (str (Lib.itoa q) = s) := ⟨_, rfl⟩
  obtain ⟨s1, HS1⟩ : ∃ s, Hid (str (Lib.decDigits 128) = s) := ⟨_, rfl⟩
  obtain ⟨s2, HS2⟩ : ∃ s, Hid (str (Lib.decDigits 129) = s) := ⟨_, rfl⟩
  have e45 : str (45 :: Lib.decDigits 129) = ⟨#[45]⟩ ++ s2 := by rw [← HS2.out, show (⟨#[45]⟩ : ByteArray) = str [45] from rfl, str_append]; rfl
  rw [e45] at V2
  rw [HS0.out] at D0
  rw [HS1.out] at D1 V1
  rw [HS2.out] at D2
  rw [HSQ.out] at SG V0 HX
  rw [HS2.out] at L3
  have ad := add_run ⟨#[45]⟩ s2 (by have : (⟨#[45]⟩ : ByteArray).size = 1 := rfl; omega)
  have HD0 : Hid (∀ w : World, Calls Tryz.prog 10 #[.int .u64 (M : Int)] w fun e w' => e = .returned (.string s0) ∧ Below w.heap.size w w') := D0
  have HD1 : Hid (∀ w : World, Calls Tryz.prog 10 #[.int .u64 128] w fun e w' => e = .returned (.string s1) ∧ Below w.heap.size w w') := D1
  have HD2 : Hid (∀ w : World, Calls Tryz.prog 10 #[.int .u64 129] w fun e w' => e = .returned (.string s2) ∧ Below w.heap.size w w') := D2
  have HSG : Hid (∀ w : World, Calls Tryz.prog 11 #[.int .i64 q] w fun e w' => e = .returned (.string sq) ∧ Below w.heap.size w w') := SG
  have HV0 : Hid (∀ (w : World), Tabs w → Calls Tryz.prog 6 #[.int .u8 2, .string sq] w (ValueTo w (some (bytesL (M : Int) 1)))) := V0
  have HV1 : Hid (∀ (w : World), Tabs w → Calls Tryz.prog 6 #[.int .u8 2, .string s1] w (ValueTo w none)) := V1
  have HV2 : Hid (∀ (w : World), Tabs w → Calls Tryz.prog 6 #[.int .u8 2, .string (⟨#[45]⟩ ++ s2)] w (ValueTo w none)) := V2
  clear D0 D1 D2 SG V0 V1 V2 IB TI LQ L1 L2 L3 SB e45 HS0 HSQ HS1 HS2 HQ HM
  go_enter Tryz.func4, Tryz.ntmps4
  go_wp2_with fail
  refine (refSize_any _ _).mono ?_
  rw [show sizeN 2 = 1 from by decide, show decide ((0 : Int) < 1) = true from by decide]
  rintro e w ⟨rfl, rfl⟩
  go_wp2_with fail
  refine (refKind_any _ _).mono ?_
  rw [show letN 2 = 105 from by decide]
  rintro e w ⟨rfl, rfl⟩
  go_wp2_with fail
  go_loopw [9, 10] (fun v i wr => ∃ k : Nat, k ≤ 1 ∧ i = .int .i64 (k : Int) ∧ Below w.heap.size w wr ∧ wr.ownsRow w.heap.size 5 1 v k ((bytesL (M : Int) k).map (Value.int .u8)))
    (fun _ i _ => 1 - (intOf i).toNat)
  case atStart => exact ⟨0, Nat.zero_le _, rfl, Below.refl _ _, World.ownsRow_nil _ _ _ _⟩
  case round =>
    obtain ⟨k, hk, rfl, hb, hown⟩ := hrel
    by_cases hlt : k < 1
    · have hlt' : (k : Int) < 1 := by omega
      have hk0 : (0 : Int) ≤ (k : Int) := by omega
      have BS : Hid (bytesL (M : Int) (k + 1) = bytesL (M : Int) k ++ [(M : Int) / 2 ^ (8 * k) % 256]) := bytesL_snoc (M : Int) k
      go_wp2_with (at_builtin; refine wpList_append_own _ rfl _ _ 23 rfl w.heap.size 5 i0 (.int .u8 0) 1 1 Tryz.underlying23 hi hz0 hz1 hz2 rfl (by decide) _ _ _ rfl (hown.alloc _) ⟨wr.heap.size, 0, none⟩ 1 1 [.int .u8 ((M : Int) / 2 ^ (8 * k) % 256)] rfl rfl ?c1 ?c2 ?c3 ?c4 ?c5 ?_)
      case c1 =>
        intro j u hj
        match j, hj with
        | 0, hj => simp at hj; subst hj; simp [Addr.add]
      case c2 => intro u hu; simp at hu; subst hu; rfl
      case c3 => unfold maxLen; omega
      case c4 => omega
      case c5 => have := hb.size; simp; omega
      intro v' w2 hown' hgrow _
      go_wp2_with fail
      refine ⟨⟨k + 1, by omega, by go_num, (Below.al hb _).grown hgrow (by have := hb.size; simp; omega) (fun j hj => (hown.lt j hj).1), ?_⟩, by simp [intOf]; omega⟩
      rw [BS.out, List.map_append]
      exact hown'
    · obtain rfl : k = 1 := by omega
      obtain ⟨a, cap, rfl, lc, cm, rb⟩ := ownRow hown rfl (bytesL_oct _ _) (bytesL_length _ _)
      clear hown
      generalize bytesL (M : Int) 1 = Z at *
      have tb := hT.next hb
      go_wp2_with fail
      refine (HD0.out _).mono ?_
      rintro e w1 ⟨rfl, hb1⟩
      go_wp2_with fail
      refine (HSG.out _).mono ?_
      rintro e w2 ⟨rfl, hb2⟩
      have b2 := Below.andThen hb1 hb2
      have t2 := tb.next b2
      have r2 := rb.next b2
      have B2 := Below.andThen hb b2
      clear hb1 hb2 b2 tb rb hb
      go_wp2_with fail
      refine (text_any 2 a 1 cap Z _ r2 t2 lc cm).mono ?_
      rw [HX.out.1, HX.out.2]
      rintro e w3 ⟨rfl, hb3⟩
      have t3 := t2.next hb3
      have r3 := r2.next hb3
      have B3 := Below.andThen B2 hb3
      clear t2 r2 B2 hb3
      go_wp2_with fail
      refine (HV0.out _ t3).mono ?_
      rintro e w4 ⟨⟨a', len', cap', rfl, told⟩, hb4⟩
      have t4 := t3.next hb4
      have c1 := told.row.str' cap'
      have c2 := (r3.next hb4).str' cap
      have B4 := Below.andThen B3 hb4
      clear t3 r3 B3 hb4 told
      go_wp2_with fail
      refine (HD1.out _).mono ?_
      rintro e w5 ⟨rfl, hb5⟩
      clear c1 c2
      go_wp2_with fail
      refine (HD2.out _).mono ?_
      rintro e w6 ⟨rfl, hb6⟩
      have b6 := Below.andThen hb5 hb6
      have t6 := t4.next b6
      have B6 := Below.andThen B4 b6
      clear hb5 hb6 b6 t4 B4
      go_wp2_with fail
      refine (HV2.out _ t6).mono ?_
      rintro e w7 ⟨rfl, hb7⟩
      go_wp2_with fail
      refine (HV1.out _ (t6.next hb7)).mono ?_
      rintro e w8 ⟨rfl, hb8⟩
      have b8 := Below.andThen hb7 hb8
      have t8 := t6.next b8
      have B8 := Below.andThen B6 b8
      clear hb7 hb8 b8 t6 B6
      go_wp2_with fail
      refine (works_any _ t8).mono ?_
      rintro e w9 ⟨rfl, hb9⟩
      go_wp2_with fail
      go_ret
      exact ⟨rfl, Below.andThen B8 hb9⟩
#print axioms whole_2

set_option maxHeartbeats 2000000 in
set_option maxRecDepth 100000 in
theorem whole_3 (n : Int) (w : World) (_h0 : 0 ≤ n) (_h1 : n < 18446744073709551616) (hT : Tabs w) :
    Calls Tryz.prog 4 #[.int .u8 3, .int .u64 n] w fun e w' => e = .returned (.bool true) ∧ Below w.heap.size w w' := by
  obtain ⟨i0, hi, hz0, hz1, hz2⟩ := info_parts infoByte
  obtain ⟨M, HM⟩ : ∃ M : Nat, n % 65536 = (M : Int) := Int.eq_ofNat_of_zero_le (by omega)
  have hM : M < 65536 := by omega
  have hw : IntKind.u64.wrap (n * 281474976710656) / 281474976710656 = (M : Int) := by rw [IntKind.wrap_u64]; omega
  have TI := text_int 3 M 2 (by decide) (by decide) (by decide) hM
  have IB := int_back 3 M 2 (by decide) (by decide) (by decide) (by decide) hM
  have SW := sg_walk 2 (M : Int) (by decide) (by decide) (by omega) (by show (M : Int) < 65536; omega)
  have SB := sgN_bd 2 (M : Int) (by decide) (by decide) (by omega) (by show (M : Int) < 65536; omega)
  obtain ⟨q, HQ⟩ : ∃ q, Hid (sgN 2 (M : Int) = q) := ⟨_, rfl⟩
  have HX : Hid (str (txS 3 (bytesL (M : Int) 2)) = str (Lib.itoa q) ∧ txE 3 (bytesL (M : Int) 2) = 0) := by show _ ∧ _; rw [TI.2.2.1 (by decide), HQ.out]; exact ⟨rfl, TI.1⟩
  rw [HQ.out] at IB SW SB
  simp only [Nat.reduceMul, Nat.reduceSub, Int.reducePow] at SW
  have SW2 : wrap64 ((M : Int) * 281474976710656) / 281474976710656 = q := by rw [← SW, w64u]
  simp only [Nat.reduceMul, Nat.reduceSub, Nat.reducePow, Nat.reduceAdd] at IB
  have D0 := digits_any M (by omega)
  have D1 := digits_any 32768 (by decide)
  have D2 := digits_any 32769 (by decide)
  have SG := signed_any q SB.1 SB.2
  have LQ := itoa_length q SB.1 SB.2
  have L1 := dec_length 32768 (by decide)
  have L2 := dec_length 32769 (by decide)
  have L3 := dec_str 32769 (by decide)
  have V0 := fun w hT => valueInt_any 3 (Lib.itoa q) w (by decide) (by omega) hT
  have V1 := fun w hT => valueInt_any 3 (Lib.decDigits 32768) w (by decide) (by omega) hT
  have V2 := fun w hT => valueInt_any 3 (45 :: Lib.decDigits 32769) w (by decide) (by rw [List.length_cons]; omega) hT
  rw [IB.1] at V0
  rw [IB.2.1] at V1
  rw [IB.2.2] at V2
  obtain ⟨s0, HS0⟩ : ∃ s, Hid (str (Lib.decDigits M) = s) := ⟨_, rfl⟩
  obtain ⟨sq, HSQ⟩ : ∃ s, Hid (str (Lib.itoa q) = s) := ⟨_, rfl⟩
  obtain ⟨s1, HS1⟩ : ∃ s, Hid (str (Lib.decDigits 32768) = s) := ⟨_, rfl⟩
  obtain ⟨s2, HS2⟩ : ∃ s, Hid (str (Lib.decDigits 32769) = s) := ⟨_, rfl⟩
  have e45 : str (45 :: Lib.decDigits 32769) = ⟨#[45]⟩ ++ s2 := by rw [← HS2.out, show (⟨#[45]⟩ : ByteArray) = str [45] from rfl, str_append]; rfl
  rw [e45] at V2
  rw [HS0.out] at D0
  rw [HS1.out] at D1 V1
  rw [HS2.out] at D2
  rw [HSQ.out] at SG V0 HX
  rw [HS2.out] at L3
  have ad := add_run ⟨#[45]⟩ s2 (by have : (⟨#[45]⟩ : ByteArray).size = 1 := rfl; omega)
  have HD0 : Hid (∀ w : World, Calls Tryz.prog 10 #[.int .u64 (M : Int)] w fun e w' => e = .returned (.string s0) ∧ Below w.heap.size w w') := D0
  have HD1 : Hid (∀ w : World, Calls Tryz.prog 10 #[.int .u64 32768] w fun e w' => e = .returned (.string s1) ∧ Below w.heap.size w w') := D1
  have HD2 : Hid (∀ w : World, Calls Tryz.prog 10 #[.int .u64 32769] w fun e w' => e = .returned (.string s2) ∧ Below w.heap.size w w') := D2
  have HSG : Hid (∀ w : World, Calls Tryz.prog 11 #[.int .i64 q] w fun e w' => e = .returned (.string sq) ∧ Below w.heap.size w w') := SG
  have HV0 : Hid (∀ (w : World), Tabs w → Calls Tryz.prog 6 #[.int .u8 3, .string sq] w (ValueTo w (some (bytesL (M : Int) 2)))) := V0
  have HV1 : Hid (∀ (w : World), Tabs w → Calls Tryz.prog 6 #[.int .u8 3, .string s1] w (ValueTo w none)) := V1
  have HV2 : Hid (∀ (w : World), Tabs w → Calls Tryz.prog 6 #[.int .u8 3, .string (⟨#[45]⟩ ++ s2)] w (ValueTo w none)) := V2
  clear D0 D1 D2 SG V0 V1 V2 IB TI LQ L1 L2 L3 SB e45 HS0 HSQ HS1 HS2 HQ HM
  go_enter Tryz.func4, Tryz.ntmps4
  go_wp2_with fail
  refine (refSize_any _ _).mono ?_
  rw [show sizeN 3 = 2 from by decide, show decide ((0 : Int) < 2) = true from by decide]
  rintro e w ⟨rfl, rfl⟩
  go_wp2_with fail
  refine (refKind_any _ _).mono ?_
  rw [show letN 3 = 105 from by decide]
  rintro e w ⟨rfl, rfl⟩
  go_wp2_with fail
  go_loopw [9, 10] (fun v i wr => ∃ k : Nat, k ≤ 2 ∧ i = .int .i64 (k : Int) ∧ Below w.heap.size w wr ∧ wr.ownsRow w.heap.size 5 1 v k ((bytesL (M : Int) k).map (Value.int .u8)))
    (fun _ i _ => 2 - (intOf i).toNat)
  case atStart => exact ⟨0, Nat.zero_le _, rfl, Below.refl _ _, World.ownsRow_nil _ _ _ _⟩
  case round =>
    obtain ⟨k, hk, rfl, hb, hown⟩ := hrel
    by_cases hlt : k < 2
    · have hlt' : (k : Int) < 2 := by omega
      have hk0 : (0 : Int) ≤ (k : Int) := by omega
      have BS : Hid (bytesL (M : Int) (k + 1) = bytesL (M : Int) k ++ [(M : Int) / 2 ^ (8 * k) % 256]) := bytesL_snoc (M : Int) k
      go_wp2_with (at_builtin; refine wpList_append_own _ rfl _ _ 23 rfl w.heap.size 5 i0 (.int .u8 0) 1 1 Tryz.underlying23 hi hz0 hz1 hz2 rfl (by decide) _ _ _ rfl (hown.alloc _) ⟨wr.heap.size, 0, none⟩ 1 1 [.int .u8 ((M : Int) / 2 ^ (8 * k) % 256)] rfl rfl ?c1 ?c2 ?c3 ?c4 ?c5 ?_)
      case c1 =>
        intro j u hj
        match j, hj with
        | 0, hj => simp at hj; subst hj; simp [Addr.add]
      case c2 => intro u hu; simp at hu; subst hu; rfl
      case c3 => unfold maxLen; omega
      case c4 => omega
      case c5 => have := hb.size; simp; omega
      intro v' w2 hown' hgrow _
      go_wp2_with fail
      refine ⟨⟨k + 1, by omega, by go_num, (Below.al hb _).grown hgrow (by have := hb.size; simp; omega) (fun j hj => (hown.lt j hj).1), ?_⟩, by simp [intOf]; omega⟩
      rw [BS.out, List.map_append]
      exact hown'
    · obtain rfl : k = 2 := by omega
      obtain ⟨a, cap, rfl, lc, cm, rb⟩ := ownRow hown rfl (bytesL_oct _ _) (bytesL_length _ _)
      clear hown
      generalize bytesL (M : Int) 2 = Z at *
      have tb := hT.next hb
      go_wp2_with fail
      refine (HD0.out _).mono ?_
      rintro e w1 ⟨rfl, hb1⟩
      go_wp2_with fail
      refine (HSG.out _).mono ?_
      rintro e w2 ⟨rfl, hb2⟩
      have b2 := Below.andThen hb1 hb2
      have t2 := tb.next b2
      have r2 := rb.next b2
      have B2 := Below.andThen hb b2
      clear hb1 hb2 b2 tb rb hb
      go_wp2_with fail
      refine (text_any 3 a 2 cap Z _ r2 t2 lc cm).mono ?_
      rw [HX.out.1, HX.out.2]
      rintro e w3 ⟨rfl, hb3⟩
      have t3 := t2.next hb3
      have r3 := r2.next hb3
      have B3 := Below.andThen B2 hb3
      clear t2 r2 B2 hb3
      go_wp2_with fail
      refine (HV0.out _ t3).mono ?_
      rintro e w4 ⟨⟨a', len', cap', rfl, told⟩, hb4⟩
      have t4 := t3.next hb4
      have c1 := told.row.str' cap'
      have c2 := (r3.next hb4).str' cap
      have B4 := Below.andThen B3 hb4
      clear t3 r3 B3 hb4 told
      go_wp2_with fail
      refine (HD1.out _).mono ?_
      rintro e w5 ⟨rfl, hb5⟩
      clear c1 c2
      go_wp2_with fail
      refine (HD2.out _).mono ?_
      rintro e w6 ⟨rfl, hb6⟩
      have b6 := Below.andThen hb5 hb6
      have t6 := t4.next b6
      have B6 := Below.andThen B4 b6
      clear hb5 hb6 b6 t4 B4
      go_wp2_with fail
      refine (HV2.out _ t6).mono ?_
      rintro e w7 ⟨rfl, hb7⟩
      go_wp2_with fail
      refine (HV1.out _ (t6.next hb7)).mono ?_
      rintro e w8 ⟨rfl, hb8⟩
      have b8 := Below.andThen hb7 hb8
      have t8 := t6.next b8
      have B8 := Below.andThen B6 b8
      clear hb7 hb8 b8 t6 B6
      go_wp2_with fail
      refine (works_any _ t8).mono ?_
      rintro e w9 ⟨rfl, hb9⟩
      go_wp2_with fail
      go_ret
      exact ⟨rfl, Below.andThen B8 hb9⟩
#print axioms whole_3

set_option maxHeartbeats 2000000 in
set_option maxRecDepth 100000 in
theorem whole_16 (n : Int) (w : World) (_h0 : 0 ≤ n) (_h1 : n < 18446744073709551616) (hT : Tabs w) :
    Calls Tryz.prog 4 #[.int .u8 16, .int .u64 n] w fun e w' => e = .returned (.bool true) ∧ Below w.heap.size w w' := by
  obtain ⟨i0, hi, hz0, hz1, hz2⟩ := info_parts infoByte
  obtain ⟨M, HM⟩ : ∃ M : Nat, n % 16777216 = (M : Int) := Int.eq_ofNat_of_zero_le (by omega)
  have hM : M < 16777216 := by omega
  have hw : IntKind.u64.wrap (n * 1099511627776) / 1099511627776 = (M : Int) := by rw [IntKind.wrap_u64]; omega
  have TI := text_int 16 M 3 (by decide) (by decide) (by decide) hM
  have IB := int_back 16 M 3 (by decide) (by decide) (by decide) (by decide) hM
  have SW := sg_walk 3 (M : Int) (by decide) (by decide) (by omega) (by show (M : Int) < 16777216; omega)
  have SB := sgN_bd 3 (M : Int) (by decide) (by decide) (by omega) (by show (M : Int) < 16777216; omega)
  obtain ⟨q, HQ⟩ : ∃ q, Hid (sgN 3 (M : Int) = q) := ⟨_, rfl⟩
  have HX : Hid (str (txS 16 (bytesL (M : Int) 3)) = str (Lib.itoa q) ∧ txE 16 (bytesL (M : Int) 3) = 0) := by show _ ∧ _; rw [TI.2.2.1 (by decide), HQ.out]; exact ⟨rfl, TI.1⟩
  rw [HQ.out] at IB SW SB
  simp only [Nat.reduceMul, Nat.reduceSub, Int.reducePow] at SW
  have SW2 : wrap64 ((M : Int) * 1099511627776) / 1099511627776 = q := by rw [← SW, w64u]
  simp only [Nat.reduceMul, Nat.reduceSub, Nat.reducePow, Nat.reduceAdd] at IB
  have D0 := digits_any M (by omega)
  have D1 := digits_any 8388608 (by decide)
  have D2 := digits_any 8388609 (by decide)
  have SG := signed_any q SB.1 SB.2
  have LQ := itoa_length q SB.1 SB.2
  have L1 := dec_length 8388608 (by decide)
  have L2 := dec_length 8388609 (by decide)
  have L3 := dec_str 8388609 (by decide)
  have V0 := fun w hT => valueInt_any 16 (Lib.itoa q) w (by decide) (by omega) hT
  have V1 := fun w hT => valueInt_any 16 (Lib.decDigits 8388608) w (by decide) (by omega) hT
  have V2 := fun w hT => valueInt_any 16 (45 :: Lib.decDigits 8388609) w (by decide) (by rw [List.length_cons]; omega) hT
  rw [IB.1] at V0
  rw [IB.2.1] at V1
  rw [IB.2.2] at V2
  obtain ⟨s0, HS0⟩ : ∃ s, Hid (str (Lib.decDigits M) = s) := ⟨_, rfl⟩
  obtain ⟨sq, HSQ⟩ : ∃ s, Hid (str (Lib.itoa q) = s) := ⟨_, rfl⟩
  obtain ⟨s1, HS1⟩ : ∃ s, Hid (str (Lib.decDigits 8388608) = s) := ⟨_, rfl⟩
  obtain ⟨s2, HS2⟩ : ∃ s, Hid (str (Lib.decDigits 8388609) = s) := ⟨_, rfl⟩
  have e45 : str (45 :: Lib.decDigits 8388609) = ⟨#[45]⟩ ++ s2 := by rw [← HS2.out, show (⟨#[45]⟩ : ByteArray) = str [45] from rfl, str_append]; rfl
  rw [e45] at V2
  rw [HS0.out] at D0
  rw [HS1.out] at D1 V1
  rw [HS2.out] at D2
  rw [HSQ.out] at SG V0 HX
  rw [HS2.out] at L3
  have ad := add_run ⟨#[45]⟩ s2 (by have : (⟨#[45]⟩ : ByteArray).size = 1 := rfl; omega)
  have HD0 : Hid (∀ w : World, Calls Tryz.prog 10 #[.int .u64 (M : Int)] w fun e w' => e = .returned (.string s0) ∧ Below w.heap.size w w') := D0
  have HD1 : Hid (∀ w : World, Calls Tryz.prog 10 #[.int .u64 8388608] w fun e w' => e = .returned (.string s1) ∧ Below w.heap.size w w') := D1
  have HD2 : Hid (∀ w : World, Calls Tryz.prog 10 #[.int .u64 8388609] w fun e w' => e = .returned (.string s2) ∧ Below w.heap.size w w') := D2
  have HSG : Hid (∀ w : World, Calls Tryz.prog 11 #[.int .i64 q] w fun e w' => e = .returned (.string sq) ∧ Below w.heap.size w w') := SG
  have HV0 : Hid (∀ (w : World), Tabs w → Calls Tryz.prog 6 #[.int .u8 16, .string sq] w (ValueTo w (some (bytesL (M : Int) 3)))) := V0
  have HV1 : Hid (∀ (w : World), Tabs w → Calls Tryz.prog 6 #[.int .u8 16, .string s1] w (ValueTo w none)) := V1
  have HV2 : Hid (∀ (w : World), Tabs w → Calls Tryz.prog 6 #[.int .u8 16, .string (⟨#[45]⟩ ++ s2)] w (ValueTo w none)) := V2
  clear D0 D1 D2 SG V0 V1 V2 IB TI LQ L1 L2 L3 SB e45 HS0 HSQ HS1 HS2 HQ HM
  go_enter Tryz.func4, Tryz.ntmps4
  go_wp2_with fail
  refine (refSize_any _ _).mono ?_
  rw [show sizeN 16 = 3 from by decide, show decide ((0 : Int) < 3) = true from by decide]
  rintro e w ⟨rfl, rfl⟩
  go_wp2_with fail
  refine (refKind_any _ _).mono ?_
  rw [show letN 16 = 105 from by decide]
  rintro e w ⟨rfl, rfl⟩
  go_wp2_with fail
  go_loopw [9, 10] (fun v i wr => ∃ k : Nat, k ≤ 3 ∧ i = .int .i64 (k : Int) ∧ Below w.heap.size w wr ∧ wr.ownsRow w.heap.size 5 1 v k ((bytesL (M : Int) k).map (Value.int .u8)))
    (fun _ i _ => 3 - (intOf i).toNat)
  case atStart => exact ⟨0, Nat.zero_le _, rfl, Below.refl _ _, World.ownsRow_nil _ _ _ _⟩
  case round =>
    obtain ⟨k, hk, rfl, hb, hown⟩ := hrel
    by_cases hlt : k < 3
    · have hlt' : (k : Int) < 3 := by omega
      have hk0 : (0 : Int) ≤ (k : Int) := by omega
      have BS : Hid (bytesL (M : Int) (k + 1) = bytesL (M : Int) k ++ [(M : Int) / 2 ^ (8 * k) % 256]) := bytesL_snoc (M : Int) k
      go_wp2_with (at_builtin; refine wpList_append_own _ rfl _ _ 23 rfl w.heap.size 5 i0 (.int .u8 0) 1 1 Tryz.underlying23 hi hz0 hz1 hz2 rfl (by decide) _ _ _ rfl (hown.alloc _) ⟨wr.heap.size, 0, none⟩ 1 1 [.int .u8 ((M : Int) / 2 ^ (8 * k) % 256)] rfl rfl ?c1 ?c2 ?c3 ?c4 ?c5 ?_)
      case c1 =>
        intro j u hj
        match j, hj with
        | 0, hj => simp at hj; subst hj; simp [Addr.add]
      case c2 => intro u hu; simp at hu; subst hu; rfl
      case c3 => unfold maxLen; omega
      case c4 => omega
      case c5 => have := hb.size; simp; omega
      intro v' w2 hown' hgrow _
      go_wp2_with fail
      refine ⟨⟨k + 1, by omega, by go_num, (Below.al hb _).grown hgrow (by have := hb.size; simp; omega) (fun j hj => (hown.lt j hj).1), ?_⟩, by simp [intOf]; omega⟩
      rw [BS.out, List.map_append]
      exact hown'
    · obtain rfl : k = 3 := by omega
      obtain ⟨a, cap, rfl, lc, cm, rb⟩ := ownRow hown rfl (bytesL_oct _ _) (bytesL_length _ _)
      clear hown
      generalize bytesL (M : Int) 3 = Z at *
      have tb := hT.next hb
      go_wp2_with fail
      refine (HD0.out _).mono ?_
      rintro e w1 ⟨rfl, hb1⟩
      go_wp2_with fail
      refine (HSG.out _).mono ?_
      rintro e w2 ⟨rfl, hb2⟩
      have b2 := Below.andThen hb1 hb2
      have t2 := tb.next b2
      have r2 := rb.next b2
      have B2 := Below.andThen hb b2
      clear hb1 hb2 b2 tb rb hb
      go_wp2_with fail
      refine (text_any 16 a 3 cap Z _ r2 t2 lc cm).mono ?_
      rw [HX.out.1, HX.out.2]
      rintro e w3 ⟨rfl, hb3⟩
      have t3 := t2.next hb3
      have r3 := r2.next hb3
      have B3 := Below.andThen B2 hb3
      clear t2 r2 B2 hb3
      go_wp2_with fail
      refine (HV0.out _ t3).mono ?_
      rintro e w4 ⟨⟨a', len', cap', rfl, told⟩, hb4⟩
      have t4 := t3.next hb4
      have c1 := told.row.str' cap'
      have c2 := (r3.next hb4).str' cap
      have B4 := Below.andThen B3 hb4
      clear t3 r3 B3 hb4 told
      go_wp2_with fail
      refine (HD1.out _).mono ?_
      rintro e w5 ⟨rfl, hb5⟩
      clear c1 c2
      go_wp2_with fail
      refine (HD2.out _).mono ?_
      rintro e w6 ⟨rfl, hb6⟩
      have b6 := Below.andThen hb5 hb6
      have t6 := t4.next b6
      have B6 := Below.andThen B4 b6
      clear hb5 hb6 b6 t4 B4
      go_wp2_with fail
      refine (HV2.out _ t6).mono ?_
      rintro e w7 ⟨rfl, hb7⟩
      go_wp2_with fail
      refine (HV1.out _ (t6.next hb7)).mono ?_
      rintro e w8 ⟨rfl, hb8⟩
      have b8 := Below.andThen hb7 hb8
      have t8 := t6.next b8
      have B8 := Below.andThen B6 b8
      clear hb7 hb8 b8 t6 B6
      go_wp2_with fail
      refine (works_any _ t8).mono ?_
      rintro e w9 ⟨rfl, hb9⟩
      go_wp2_with fail
      go_ret
      exact ⟨rfl, Below.andThen B8 hb9⟩
#print axioms whole_16

set_option maxHeartbeats 2000000 in
set_option maxRecDepth 100000 in
theorem whole_4 (n : Int) (w : World) (_h0 : 0 ≤ n) (_h1 : n < 18446744073709551616) (hT : Tabs w) :
    Calls Tryz.prog 4 #[.int .u8 4, .int .u64 n] w fun e w' => e = .returned (.bool true) ∧ Below w.heap.size w w' := by
  obtain ⟨i0, hi, hz0, hz1, hz2⟩ := info_parts infoByte
  obtain ⟨M, HM⟩ : ∃ M : Nat, n % 4294967296 = (M : Int) := Int.eq_ofNat_of_zero_le (by omega)
  have hM : M < 4294967296 := by omega
  have hw : IntKind.u64.wrap (n * 4294967296) / 4294967296 = (M : Int) := by rw [IntKind.wrap_u64]; omega
  have TI := text_int 4 M 4 (by decide) (by decide) (by decide) hM
  have IB := int_back 4 M 4 (by decide) (by decide) (by decide) (by decide) hM
  have SW := sg_walk 4 (M : Int) (by decide) (by decide) (by omega) (by show (M : Int) < 4294967296; omega)
  have SB := sgN_bd 4 (M : Int) (by decide) (by decide) (by omega) (by show (M : Int) < 4294967296; omega)
  obtain ⟨q, HQ⟩ : ∃ q, Hid (sgN 4 (M : Int) = q) := ⟨_, rfl⟩
  have HX : Hid (str (txS 4 (bytesL (M : Int) 4)) = str (Lib.itoa q) ∧ txE 4 (bytesL (M : Int) 4) = 0) := by show _ ∧ _; rw [TI.2.2.1 (by decide), HQ.out]; exact ⟨rfl, TI.1⟩
  rw [HQ.out] at IB SW SB
  simp only [Nat.reduceMul, Nat.reduceSub, Int.reducePow] at SW
  have SW2 : wrap64 ((M : Int) * 4294967296) / 4294967296 = q := by rw [← SW, w64u]
  simp only [Nat.reduceMul, Nat.reduceSub, Nat.reducePow, Nat.reduceAdd] at IB
  have D0 := digits_any M (by omega)
  have D1 := digits_any 2147483648 (by decide)
  have D2 := digits_any 2147483649 (by decide)
  have SG := signed_any q SB.1 SB.2
  have LQ := itoa_length q SB.1 SB.2
  have L1 := dec_length 2147483648 (by decide)
  have L2 := dec_length 2147483649 (by decide)
  have L3 := dec_str 2147483649 (by decide)
  have V0 := fun w hT => valueInt_any 4 (Lib.itoa q) w (by decide) (by omega) hT
  have V1 := fun w hT => valueInt_any 4 (Lib.decDigits 2147483648) w (by decide) (by omega) hT
  have V2 := fun w hT => valueInt_any 4 (45 :: Lib.decDigits 2147483649) w (by decide) (by rw [List.length_cons]; omega) hT
  rw [IB.1] at V0
  rw [IB.2.1] at V1
  rw [IB.2.2] at V2
  obtain ⟨s0, HS0⟩ : ∃ s, Hid (str (Lib.decDigits M) = s) := ⟨_, rfl⟩
  obtain ⟨sq, HSQ⟩ : ∃ s, Hid (str (Lib.itoa q) = s) := ⟨_, rfl⟩
  obtain ⟨s1, HS1⟩ : ∃ s, Hid (str (Lib.decDigits 2147483648) = s) := ⟨_, rfl⟩
  obtain ⟨s2, HS2⟩ : ∃ s, Hid (str (Lib.decDigits 2147483649) = s) := ⟨_, rfl⟩
  have e45 : str (45 :: Lib.decDigits 2147483649) = ⟨#[45]⟩ ++ s2 := by rw [← HS2.out, show (⟨#[45]⟩ : ByteArray) = str [45] from rfl, str_append]; rfl
  rw [e45] at V2
  rw [HS0.out] at D0
  rw [HS1.out] at D1 V1
  rw [HS2.out] at D2
  rw [HSQ.out] at SG V0 HX
  rw [HS2.out] at L3
  have ad := add_run ⟨#[45]⟩ s2 (by have : (⟨#[45]⟩ : ByteArray).size = 1 := rfl; omega)
  have HD0 : Hid (∀ w : World, Calls Tryz.prog 10 #[.int .u64 (M : Int)] w fun e w' => e = .returned (.string s0) ∧ Below w.heap.size w w') := D0
  have HD1 : Hid (∀ w : World, Calls Tryz.prog 10 #[.int .u64 2147483648] w fun e w' => e = .returned (.string s1) ∧ Below w.heap.size w w') := D1
  have HD2 : Hid (∀ w : World, Calls Tryz.prog 10 #[.int .u64 2147483649] w fun e w' => e = .returned (.string s2) ∧ Below w.heap.size w w') := D2
  have HSG : Hid (∀ w : World, Calls Tryz.prog 11 #[.int .i64 q] w fun e w' => e = .returned (.string sq) ∧ Below w.heap.size w w') := SG
  have HV0 : Hid (∀ (w : World), Tabs w → Calls Tryz.prog 6 #[.int .u8 4, .string sq] w (ValueTo w (some (bytesL (M : Int) 4)))) := V0
  have HV1 : Hid (∀ (w : World), Tabs w → Calls Tryz.prog 6 #[.int .u8 4, .string s1] w (ValueTo w none)) := V1
  have HV2 : Hid (∀ (w : World), Tabs w → Calls Tryz.prog 6 #[.int .u8 4, .string (⟨#[45]⟩ ++ s2)] w (ValueTo w none)) := V2
  clear D0 D1 D2 SG V0 V1 V2 IB TI LQ L1 L2 L3 SB e45 HS0 HSQ HS1 HS2 HQ HM
  go_enter Tryz.func4, Tryz.ntmps4
  go_wp2_with fail
  refine (refSize_any _ _).mono ?_
  rw [show sizeN 4 = 4 from by decide, show decide ((0 : Int) < 4) = true from by decide]
  rintro e w ⟨rfl, rfl⟩
  go_wp2_with fail
  refine (refKind_any _ _).mono ?_
  rw [show letN 4 = 105 from by decide]
  rintro e w ⟨rfl, rfl⟩
  go_wp2_with fail
  go_loopw [9, 10] (fun v i wr => ∃ k : Nat, k ≤ 4 ∧ i = .int .i64 (k : Int) ∧ Below w.heap.size w wr ∧ wr.ownsRow w.heap.size 5 1 v k ((bytesL (M : Int) k).map (Value.int .u8)))
    (fun _ i _ => 4 - (intOf i).toNat)
  case atStart => exact ⟨0, Nat.zero_le _, rfl, Below.refl _ _, World.ownsRow_nil _ _ _ _⟩
  case round =>
    obtain ⟨k, hk, rfl, hb, hown⟩ := hrel
    by_cases hlt : k < 4
    · have hlt' : (k : Int) < 4 := by omega
      have hk0 : (0 : Int) ≤ (k : Int) := by omega
      have BS : Hid (bytesL (M : Int) (k + 1) = bytesL (M : Int) k ++ [(M : Int) / 2 ^ (8 * k) % 256]) := bytesL_snoc (M : Int) k
      go_wp2_with (at_builtin; refine wpList_append_own _ rfl _ _ 23 rfl w.heap.size 5 i0 (.int .u8 0) 1 1 Tryz.underlying23 hi hz0 hz1 hz2 rfl (by decide) _ _ _ rfl (hown.alloc _) ⟨wr.heap.size, 0, none⟩ 1 1 [.int .u8 ((M : Int) / 2 ^ (8 * k) % 256)] rfl rfl ?c1 ?c2 ?c3 ?c4 ?c5 ?_)
      case c1 =>
        intro j u hj
        match j, hj with
        | 0, hj => simp at hj; subst hj; simp [Addr.add]
      case c2 => intro u hu; simp at hu; subst hu; rfl
      case c3 => unfold maxLen; omega
      case c4 => omega
      case c5 => have := hb.size; simp; omega
      intro v' w2 hown' hgrow _
      go_wp2_with fail
      refine ⟨⟨k + 1, by omega, by go_num, (Below.al hb _).grown hgrow (by have := hb.size; simp; omega) (fun j hj => (hown.lt j hj).1), ?_⟩, by simp [intOf]; omega⟩
      rw [BS.out, List.map_append]
      exact hown'
    · obtain rfl : k = 4 := by omega
      obtain ⟨a, cap, rfl, lc, cm, rb⟩ := ownRow hown rfl (bytesL_oct _ _) (bytesL_length _ _)
      clear hown
      generalize bytesL (M : Int) 4 = Z at *
      have tb := hT.next hb
      go_wp2_with fail
      refine (HD0.out _).mono ?_
      rintro e w1 ⟨rfl, hb1⟩
      go_wp2_with fail
      refine (HSG.out _).mono ?_
      rintro e w2 ⟨rfl, hb2⟩
      have b2 := Below.andThen hb1 hb2
      have t2 := tb.next b2
      have r2 := rb.next b2
      have B2 := Below.andThen hb b2
      clear hb1 hb2 b2 tb rb hb
      go_wp2_with fail
      refine (text_any 4 a 4 cap Z _ r2 t2 lc cm).mono ?_
      rw [HX.out.1, HX.out.2]
      rintro e w3 ⟨rfl, hb3⟩
      have t3 := t2.next hb3
      have r3 := r2.next hb3
      have B3 := Below.andThen B2 hb3
      clear t2 r2 B2 hb3
      go_wp2_with fail
      refine (HV0.out _ t3).mono ?_
      rintro e w4 ⟨⟨a', len', cap', rfl, told⟩, hb4⟩
      have t4 := t3.next hb4
      have c1 := told.row.str' cap'
      have c2 := (r3.next hb4).str' cap
      have B4 := Below.andThen B3 hb4
      clear t3 r3 B3 hb4 told
      go_wp2_with fail
      refine (HD1.out _).mono ?_
      rintro e w5 ⟨rfl, hb5⟩
      clear c1 c2
      go_wp2_with fail
      refine (HD2.out _).mono ?_
      rintro e w6 ⟨rfl, hb6⟩
      have b6 := Below.andThen hb5 hb6
      have t6 := t4.next b6
      have B6 := Below.andThen B4 b6
      clear hb5 hb6 b6 t4 B4
      go_wp2_with fail
      refine (HV2.out _ t6).mono ?_
      rintro e w7 ⟨rfl, hb7⟩
      go_wp2_with fail
      refine (HV1.out _ (t6.next hb7)).mono ?_
      rintro e w8 ⟨rfl, hb8⟩
      have b8 := Below.andThen hb7 hb8
      have t8 := t6.next b8
      have B8 := Below.andThen B6 b8
      clear hb7 hb8 b8 t6 B6
      go_wp2_with fail
      refine (works_any _ t8).mono ?_
      rintro e w9 ⟨rfl, hb9⟩
      go_wp2_with fail
      go_ret
      exact ⟨rfl, Below.andThen B8 hb9⟩
#print axioms whole_4

set_option maxHeartbeats 2000000 in
set_option maxRecDepth 100000 in
theorem whole_21 (n : Int) (w : World) (_h0 : 0 ≤ n) (_h1 : n < 18446744073709551616) (hT : Tabs w) :
    Calls Tryz.prog 4 #[.int .u8 21, .int .u64 n] w fun e w' => e = .returned (.bool true) ∧ Below w.heap.size w w' := by
  obtain ⟨i0, hi, hz0, hz1, hz2⟩ := info_parts infoByte
  obtain ⟨M, HM⟩ : ∃ M : Nat, n % 18446744073709551616 = (M : Int) := Int.eq_ofNat_of_zero_le (by omega)
  have hM : M < 18446744073709551616 := by omega
  obtain rfl : n = (M : Int) := by omega
  have hw : IntKind.u64.wrap (M : Int) = (M : Int) := u64_wrap_id _ (by omega) (by omega)
  have TI := text_int 21 M 8 (by decide) (by decide) (by decide) hM
  have IB := int_back 21 M 8 (by decide) (by decide) (by decide) (by decide) hM
  have SW := sg_walk 8 (M : Int) (by decide) (by decide) (by omega) (by show (M : Int) < 18446744073709551616; omega)
  have SB := sgN_bd 8 (M : Int) (by decide) (by decide) (by omega) (by show (M : Int) < 18446744073709551616; omega)
  obtain ⟨q, HQ⟩ : ∃ q, Hid (sgN 8 (M : Int) = q) := ⟨_, rfl⟩
  have HX : Hid (str (txS 21 (bytesL (M : Int) 8)) = str (Lib.itoa q) ∧ txE 21 (bytesL (M : Int) 8) = 0) := by show _ ∧ _; rw [TI.2.2.1 (by decide), HQ.out]; exact ⟨rfl, TI.1⟩
  rw [HQ.out] at IB SW SB
  simp only [Nat.reduceMul, Nat.reduceSub, Int.reducePow, Int.mul_one, Int.ediv_one] at SW
  have SW2 : wrap64 (M : Int) = q := by rw [← SW, w64u]
  simp only [Nat.reduceMul, Nat.reduceSub, Nat.reducePow, Nat.reduceAdd] at IB
  have D0 := digits_any M (by omega)
  have D1 := digits_any 9223372036854775808 (by decide)
  have D2 := digits_any 9223372036854775809 (by decide)
  have SG := signed_any q SB.1 SB.2
  have LQ := itoa_length q SB.1 SB.2
  have L1 := dec_length 9223372036854775808 (by decide)
  have L2 := dec_length 9223372036854775809 (by decide)
  have L3 := dec_str 9223372036854775809 (by decide)
  have V0 := fun w hT => valueInt_any 21 (Lib.itoa q) w (by decide) (by omega) hT
  have V1 := fun w hT => valueInt_any 21 (Lib.decDigits 9223372036854775808) w (by decide) (by omega) hT
  have V2 := fun w hT => valueInt_any 21 (45 :: Lib.decDigits 9223372036854775809) w (by decide) (by rw [List.length_cons]; omega) hT
  rw [IB.1] at V0
  rw [IB.2.1] at V1
  rw [IB.2.2] at V2
  obtain ⟨s0, HS0⟩ : ∃ s, Hid (str (Lib.decDigits M) = s) := ⟨_, rfl⟩
  obtain ⟨sq, HSQ⟩ : ∃ s, Hid (str (Lib.itoa q) = s) := ⟨_, rfl⟩
  obtain ⟨s1, HS1⟩ : ∃ s, Hid (str (Lib.decDigits 9223372036854775808) = s) := ⟨_, rfl⟩
  obtain ⟨s2, HS2⟩ : ∃ s, Hid (str (Lib.decDigits 9223372036854775809) = s) := ⟨_, rfl⟩
  have e45 : str (45 :: Lib.decDigits 9223372036854775809) = ⟨#[45]⟩ ++ s2 := by rw [← HS2.out, show (⟨#[45]⟩ : ByteArray) = str [45] from rfl, str_append]; rfl
  rw [e45] at V2
  rw [HS0.out] at D0
  rw [HS1.out] at D1 V1
  rw [HS2.out] at D2
  rw [HSQ.out] at SG V0 HX
  rw [HS2.out] at L3
  have ad := add_run ⟨#[45]⟩ s2 (by have : (⟨#[45]⟩ : ByteArray).size = 1 := rfl; omega)
  have HD0 : Hid (∀ w : World, Calls Tryz.prog 10 #[.int .u64 (M : Int)] w fun e w' => e = .returned (.string s0) ∧ Below w.heap.size w w') := D0
  have HD1 : Hid (∀ w : World, Calls Tryz.prog 10 #[.int .u64 9223372036854775808] w fun e w' => e = .returned (.string s1) ∧ Below w.heap.size w w') := D1
  have HD2 : Hid (∀ w : World, Calls Tryz.prog 10 #[.int .u64 9223372036854775809] w fun e w' => e = .returned (.string s2) ∧ Below w.heap.size w w') := D2
  have HSG : Hid (∀ w : World, Calls Tryz.prog 11 #[.int .i64 q] w fun e w' => e = .returned (.string sq) ∧ Below w.heap.size w w') := SG
  have HV0 : Hid (∀ (w : World), Tabs w → Calls Tryz.prog 6 #[.int .u8 21, .string sq] w (ValueTo w (some (bytesL (M : Int) 8)))) := V0
  have HV1 : Hid (∀ (w : World), Tabs w → Calls Tryz.prog 6 #[.int .u8 21, .string s1] w (ValueTo w none)) := V1
  have HV2 : Hid (∀ (w : World), Tabs w → Calls Tryz.prog 6 #[.int .u8 21, .string (⟨#[45]⟩ ++ s2)] w (ValueTo w none)) := V2
  clear D0 D1 D2 SG V0 V1 V2 IB TI LQ L1 L2 L3 SB e45 HS0 HSQ HS1 HS2 HQ HM
  go_enter Tryz.func4, Tryz.ntmps4
  go_wp2_with fail
  refine (refSize_any _ _).mono ?_
  rw [show sizeN 21 = 8 from by decide, show decide ((0 : Int) < 8) = true from by decide]
  rintro e w ⟨rfl, rfl⟩
  go_wp2_with fail
  refine (refKind_any _ _).mono ?_
  rw [show letN 21 = 105 from by decide]
  rintro e w ⟨rfl, rfl⟩
  go_wp2_with fail
  go_loopw [9, 10] (fun v i wr => ∃ k : Nat, k ≤ 8 ∧ i = .int .i64 (k : Int) ∧ Below w.heap.size w wr ∧ wr.ownsRow w.heap.size 5 1 v k ((bytesL (M : Int) k).map (Value.int .u8)))
    (fun _ i _ => 8 - (intOf i).toNat)
  case atStart => exact ⟨0, Nat.zero_le _, rfl, Below.refl _ _, World.ownsRow_nil _ _ _ _⟩
  case round =>
    obtain ⟨k, hk, rfl, hb, hown⟩ := hrel
    by_cases hlt : k < 8
    · have hlt' : (k : Int) < 8 := by omega
      have hk0 : (0 : Int) ≤ (k : Int) := by omega
      have BS : Hid (bytesL (M : Int) (k + 1) = bytesL (M : Int) k ++ [(M : Int) / 2 ^ (8 * k) % 256]) := bytesL_snoc (M : Int) k
      go_wp2_with (at_builtin; refine wpList_append_own _ rfl _ _ 23 rfl w.heap.size 5 i0 (.int .u8 0) 1 1 Tryz.underlying23 hi hz0 hz1 hz2 rfl (by decide) _ _ _ rfl (hown.alloc _) ⟨wr.heap.size, 0, none⟩ 1 1 [.int .u8 ((M : Int) / 2 ^ (8 * k) % 256)] rfl rfl ?c1 ?c2 ?c3 ?c4 ?c5 ?_)
      case c1 =>
        intro j u hj
        match j, hj with
        | 0, hj => simp at hj; subst hj; simp [Addr.add]
      case c2 => intro u hu; simp at hu; subst hu; rfl
      case c3 => unfold maxLen; omega
      case c4 => omega
      case c5 => have := hb.size; simp; omega
      intro v' w2 hown' hgrow _
      go_wp2_with fail
      refine ⟨⟨k + 1, by omega, by go_num, (Below.al hb _).grown hgrow (by have := hb.size; simp; omega) (fun j hj => (hown.lt j hj).1), ?_⟩, by simp [intOf]; omega⟩
      rw [BS.out, List.map_append]
      exact hown'
    · obtain rfl : k = 8 := by omega
      obtain ⟨a, cap, rfl, lc, cm, rb⟩ := ownRow hown rfl (bytesL_oct _ _) (bytesL_length _ _)
      clear hown
      generalize bytesL (M : Int) 8 = Z at *
      have tb := hT.next hb
      go_wp2_with fail
      refine (HD0.out _).mono ?_
      rintro e w1 ⟨rfl, hb1⟩
      go_wp2_with fail
      refine (HSG.out _).mono ?_
      rintro e w2 ⟨rfl, hb2⟩
      have b2 := Below.andThen hb1 hb2
      have t2 := tb.next b2
      have r2 := rb.next b2
      have B2 := Below.andThen hb b2
      clear hb1 hb2 b2 tb rb hb
      go_wp2_with fail
      refine (text_any 21 a 8 cap Z _ r2 t2 lc cm).mono ?_
      rw [HX.out.1, HX.out.2]
      rintro e w3 ⟨rfl, hb3⟩
      have t3 := t2.next hb3
      have r3 := r2.next hb3
      have B3 := Below.andThen B2 hb3
      clear t2 r2 B2 hb3
      go_wp2_with fail
      refine (HV0.out _ t3).mono ?_
      rintro e w4 ⟨⟨a', len', cap', rfl, told⟩, hb4⟩
      have t4 := t3.next hb4
      have c1 := told.row.str' cap'
      have c2 := (r3.next hb4).str' cap
      have B4 := Below.andThen B3 hb4
      clear t3 r3 B3 hb4 told
      go_wp2_with fail
      refine (HD1.out _).mono ?_
      rintro e w5 ⟨rfl, hb5⟩
      clear c1 c2
      go_wp2_with fail
      refine (HD2.out _).mono ?_
      rintro e w6 ⟨rfl, hb6⟩
      have b6 := Below.andThen hb5 hb6
      have t6 := t4.next b6
      have B6 := Below.andThen B4 b6
      clear hb5 hb6 b6 t4 B4
      go_wp2_with fail
      refine (HV2.out _ t6).mono ?_
      rintro e w7 ⟨rfl, hb7⟩
      go_wp2_with fail
      refine (HV1.out _ (t6.next hb7)).mono ?_
      rintro e w8 ⟨rfl, hb8⟩
      have b8 := Below.andThen hb7 hb8
      have t8 := t6.next b8
      have B8 := Below.andThen B6 b8
      clear hb7 hb8 b8 t6 B6
      go_wp2_with fail
      refine (works_any _ t8).mono ?_
      rintro e w9 ⟨rfl, hb9⟩
      go_wp2_with fail
      go_ret
      exact ⟨rfl, Below.andThen B8 hb9⟩
#print axioms whole_21
end Go.Proofs.YteglncddckeegaaGreatDoor
