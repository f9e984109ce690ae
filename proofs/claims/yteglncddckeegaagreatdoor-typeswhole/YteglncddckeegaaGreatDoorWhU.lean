/-
  The walk of TypesWhole at the types of numbers without a sign.
-/
import Derived.Test.YteglncddckeegaaGreatDoorWhl4
namespace Go.Proofs.YteglncddckeegaaGreatDoor
open Pl Go.RowKit

set_option maxHeartbeats 2000000 in
set_option maxRecDepth 100000 in
theorem whole_5 (n : Int) (w : World) (_h0 : 0 ≤ n) (_h1 : n < 18446744073709551616) (hT : Tabs w) :
    Calls Tryz.prog 4 #[.int .u8 5, .int .u64 n] w fun e w' => e = .returned (.bool true) ∧ Below w.heap.size w w' := by
  obtain ⟨i0, hi, hz0, hz1, hz2⟩ := info_parts infoByte
  obtain ⟨M, HM⟩ : ∃ M : Nat, n % 256 = (M : Int) := Int.eq_ofNat_of_zero_le (by omega)
  have hM : M < 256 := by omega
  have hw : IntKind.u64.wrap (n * 72057594037927936) / 72057594037927936 = (M : Int) := by rw [IntKind.wrap_u64]; omega
  have TI := text_int 5 M 1 (by decide) (by decide) (by decide) hM
  have UB := uns_back 5 M 1 (by decide) (by decide) (by decide) hM
  simp only [Nat.reduceMul, Nat.reducePow] at UB
  have HX : Hid (str (txS 5 (bytesL (M : Int) 1)) = str (Lib.decDigits M) ∧ txE 5 (bytesL (M : Int) 1) = 0) := by show _ ∧ _; rw [TI.2.2.2 (by decide)]; exact ⟨rfl, TI.1⟩
  have D0 := digits_any M (by omega)
  have L0 := dec_length M (by omega)
  have V0 := fun w hT => valueInt_any 5 (Lib.decDigits M) w (by decide) (by omega) hT
  have V2 := fun w hT => valueInt_any 5 [45, 49] w (by decide) (by decide) hT
  have D1 := digits_any 256 (by decide)
  have L1 := dec_length 256 (by decide)
  have V1 := fun w hT => valueInt_any 5 (Lib.decDigits 256) w (by decide) (by omega) hT
  rw [UB.2.1] at V1
  rw [UB.1] at V0
  rw [UB.2.2.1] at V2
  have VX : ∀ X : List UInt8, X.length = 16 → hexF true 0 X = some M → ∀ w, Tabs w → Calls Tryz.prog 6 #[.int .u8 5, .string (⟨#[48, 120]⟩ ++ str X)] w (ValueTo w (some (bytesL (M : Int) 1))) := fun X hl h w hT => by
    have := valueInt_any 5 (48 :: 120 :: X) w (by decide) (by rw [List.length_cons, List.length_cons]; omega) hT
    rw [UB.2.2.2 X hl h] at this
    rw [show (⟨#[48, 120]⟩ : ByteArray) = str [48, 120] from rfl, str_append]
    exact this
  obtain ⟨s0, HS0⟩ : ∃ s, Hid (str (Lib.decDigits M) = s) := ⟨_, rfl⟩
  rw [HS0.out] at D0 V0 HX
  obtain ⟨s1, HS1⟩ : ∃ s, Hid (str (Lib.decDigits 256) = s) := ⟨_, rfl⟩
  rw [HS1.out] at D1 V1
  have HD1 : Hid (∀ w : World, Calls Tryz.prog 10 #[.int .u64 256] w fun e w' => e = .returned (.string s1) ∧ Below w.heap.size w w') := D1
  have HD0 : Hid (∀ w : World, Calls Tryz.prog 10 #[.int .u64 (M : Int)] w fun e w' => e = .returned (.string s0) ∧ Below w.heap.size w w') := D0
  have HV0 : Hid (∀ (w : World), Tabs w → Calls Tryz.prog 6 #[.int .u8 5, .string s0] w (ValueTo w (some (bytesL (M : Int) 1)))) := V0
  have HV1 : Hid (∀ (w : World), Tabs w → Calls Tryz.prog 6 #[.int .u8 5, .string s1] w (ValueTo w none)) := V1
  have HV2 : Hid (∀ (w : World), Tabs w → Calls Tryz.prog 6 #[.int .u8 5, .string ⟨#[45, 49]⟩] w (ValueTo w none)) := V2
  have HVX : Hid (∀ X : List UInt8, X.length = 16 → hexF true 0 X = some M → ∀ w, Tabs w → Calls Tryz.prog 6 #[.int .u8 5, .string (⟨#[48, 120]⟩ ++ str X)] w (ValueTo w (some (bytesL (M : Int) 1)))) := VX
  clear D0 V0 V1 V2 VX UB TI L0 HS0 HM D1 L1 HS1
  go_enter Tryz.func4, Tryz.ntmps4
  go_wp2_with fail
  refine (refSize_any _ _).mono ?_
  rw [show sizeN 5 = 1 from by decide, show decide ((0 : Int) < 1) = true from by decide]
  rintro e w ⟨rfl, rfl⟩
  go_wp2_with fail
  refine (refKind_any _ _).mono ?_
  rw [show letN 5 = 117 from by decide]
  rintro e w ⟨rfl, rfl⟩
  go_wp2_with fail
  go_loopw [9, 10] (fun v i wr => ∃ k : Nat, k ≤ 1 ∧ i = .int .i64 (k : Int) ∧ Below w.heap.size w wr ∧ wr.ownsRow w.heap.size 5 1 v k ((bytesL (M : Int) k).map (Value.int .u8)))
    (fun _ i _ => 1 - (intOf i).toNat)
  case atStart => exact ⟨0, Nat.zero_le _, rfl, Below.refl _ _, World.ownsRow_nil _ _ _ _⟩
  case round =>
    obtain ⟨k, hk, rfl, hb, hown⟩ := hrel
    by_cases hlt : k < 1
    · have hlt' : (k : Int) < 1 := by omega
      have hk0 : (0 : Int) ≤ (k : Int) := by omega
      have BS : Hid (bytesL (M : Int) (k + 1) = bytesL (M : Int) k ++ [(M : Int) / 2 ^ (8 * k) % 256]) := bytesL_snoc (M : Int) k
      go_wp2_with (at_builtin; refine wpList_append_own _ rfl _ _ 23 rfl w.heap.size 5 i0 (.int .u8 0) 1 1 Tryz.underlying23 hi hz0 hz1 hz2 rfl (by decide) _ _ _ rfl (hown.alloc _) ⟨wr.heap.size, 0, none⟩ 1 1 [.int .u8 ((M : Int) / 2 ^ (8 * k) % 256)] rfl rfl ?c1 ?c2 ?c3 ?c4 ?c5 ?_)
      case c1 =>
        intro j u hj
        match j, hj with
        | 0, hj => simp at hj; subst hj; simp [Addr.add]
      case c2 => intro u hu; simp at hu; subst hu; rfl
      case c3 => unfold maxLen; omega
      case c4 => omega
      case c5 => have := hb.size; simp; omega
      intro v' w2 hown' hgrow _
      go_wp2_with fail
      refine ⟨⟨k + 1, by omega, by go_num, (Below.al hb _).grown hgrow (by have := hb.size; simp; omega) (fun j hj => (hown.lt j hj).1), ?_⟩, by simp [intOf]; omega⟩
      rw [BS.out, List.map_append]
      exact hown'
    · obtain rfl : k = 1 := by omega
      obtain ⟨a, cap, rfl, lc, cm, rb⟩ := ownRow hown rfl (bytesL_oct _ _) (bytesL_length _ _)
      clear hown
      generalize bytesL (M : Int) 1 = Z at *
      have tb := hT.next hb
      go_wp2_with fail
      refine (HD0.out _).mono ?_
      rintro e w1 ⟨rfl, hb1⟩
      have t2 := tb.next hb1
      have r2 := rb.next hb1
      have B2 := Below.andThen hb hb1
      clear hb1 tb rb hb
      go_wp2_with fail
      refine (text_any 5 a 1 cap Z _ r2 t2 lc cm).mono ?_
      rw [HX.out.1, HX.out.2]
      rintro e w3 ⟨rfl, hb3⟩
      have t3 := t2.next hb3
      have r3 := r2.next hb3
      have B3 := Below.andThen B2 hb3
      clear t2 r2 B2 hb3
      go_wp2_with fail
      refine (HV0.out _ t3).mono ?_
      rintro e w4 ⟨⟨a', len', cap', rfl, told⟩, hb4⟩
      have t4 := t3.next hb4
      have c1 := told.row.str' cap'
      have c2 := (r3.next hb4).str' cap
      have r4 := r3.next hb4
      have B4 := Below.andThen B3 hb4
      clear t3 r3 B3 hb4 told
      go_wp2_with fail
      refine (HD1.out _).mono ?_
      rintro e w6 ⟨rfl, hb6⟩
      clear c1 c2
      have t6 := t4.next hb6
      have r6 := r4.next hb6
      have B6 := Below.andThen B4 hb6
      clear hb6 t4 B4 r4
      go_wp2_with fail
      refine (HV2.out _ t6).mono ?_
      rintro e w7 ⟨rfl, hb7⟩
      go_wp2_with fail
      refine (HV1.out _ (t6.next hb7)).mono ?_
      rintro e w8 ⟨rfl, hb8⟩
      have b8 := Below.andThen hb7 hb8
      have t8 := t6.next b8
      have r8 := r6.next b8
      have B8 := Below.andThen B6 b8
      clear hb7 hb8 b8 t6 B6 r6
      go_wp2_with fail
      go_loop [1, 22, 23] (fun n x i => ∃ (k q : Nat) (X : List UInt8), k ≤ 16 ∧ i = .int .i64 (k : Int) ∧ n = .int .u64 (q : Int) ∧ x = .string (str X) ∧ q = M / 16 ^ k ∧ X.length = k ∧ hexF true 0 X = some (M % 16 ^ k)) (fun _ _ i => 16 - (intOf i).toNat)
      case atStart => exact ⟨0, M, [], Nat.zero_le _, rfl, rfl, rfl, by simp, rfl, by simp [hexF, Nat.mod_one]⟩
      case round =>
        obtain ⟨k, q, X, hk, rfl, rfl, rfl, hq, hl, hf⟩ := hrel
        have hq1 : q < 18446744073709551616 := by rw [hq]; exact Nat.lt_of_le_of_lt (Nat.div_le_self _ _) (by omega)
        by_cases hlt : k < 16
        · have hlt' : (k : Int) < 16 := by omega
          have a15 := and15v (q : Int) (by omega) (by omega)
          have sl := slice16 ((q : Int) % 16) (by omega) (by omega)
          have w1 : IntKind.u64.wrap ((q : Int) % 16 + 1) = (q : Int) % 16 + 1 := u64_wrap_id _ (by omega) (by omega)
          have HC : Hid (hexF true 0 (hexG (q % 16) :: X) = some (M % 16 ^ (k + 1))) := hex_cons X M k (q % 16) hl hf (by rw [hq])
          have HQ : Hid (q / 16 = M / 16 ^ (k + 1)) := by show _ = _; rw [hq, Nat.div_div_eq_div_mul, ← Nat.pow_succ]
          obtain ⟨sx, HSX⟩ : ∃ s, Hid (str X = s) := ⟨_, rfl⟩
          obtain ⟨sd, HSD⟩ : ∃ s, Hid (str [hexG ((q : Int) % 16).toNat] = s) := ⟨_, rfl⟩
          have z1 : sx.size ≤ 16 := by rw [← HSX.out]; show X.toArray.size ≤ 16; rw [List.size_toArray]; omega
          have z2 : sd.size = 1 := by rw [← HSD.out]; rfl
          have ad := add_run sd sx (by omega)
          have HA : Hid (sd ++ sx = str (hexG (q % 16) :: X)) := by show _ = _; rw [← HSX.out, ← HSD.out, str_append, show ((q : Int) % 16).toNat = q % 16 from by omega]; rfl
          rw [HSD.out] at sl
          rw [HSX.out]
          clear hf hq z1 z2
          go_wp2_with fail
          exact ⟨⟨k + 1, q / 16, hexG (q % 16) :: X, by omega, by go_num, congrArg (Value.int .u64) (by omega), congrArg Value.string HA.out, HQ.out, by rw [List.length_cons, hl], HC.out⟩, by simp [intOf]; omega⟩
        · obtain rfl : k = 16 := by omega
          have hf' : hexF true 0 X = some M := by rw [hf, Nat.mod_eq_of_lt (by show M < 18446744073709551616; omega)]
          have HV := HVX.out X hl hf'
          have zx : (str X).size = 16 := by show X.toArray.size = 16; rw [List.size_toArray]; exact hl
          obtain ⟨sx, HSX⟩ : ∃ s, Hid (str X = s) := ⟨_, rfl⟩
          rw [HSX.out] at HV zx
          rw [HSX.out]
          have HV' : Hid (∀ (w : World), Tabs w → Calls Tryz.prog 6 #[.int .u8 5, .string (⟨#[48, 120]⟩ ++ sx)] w (ValueTo w (some Z))) := HV
          have ad := add_run ⟨#[48, 120]⟩ sx (by have : (⟨#[48, 120]⟩ : ByteArray).size = 2 := rfl; omega)
          clear hf hf' hq hl HV zx
          go_wp2_with fail
          refine (HV'.out _ t8).mono ?_
          rintro e w9 ⟨⟨a9, len9, cap9, rfl, told⟩, hb9⟩
          have c1 := told.row.str' cap9
          have c2 := (r8.next hb9).str' cap
          have t9 := t8.next hb9
          have B9 := Below.andThen B8 hb9
          clear told hb9 t8 B8 r8
          go_wp2_with fail
          refine (works_any _ t9).mono ?_
          rintro e w10 ⟨rfl, hb10⟩
          go_wp2_with fail
          go_ret
          exact ⟨rfl, Below.andThen B9 hb10⟩
#print axioms whole_5

set_option maxHeartbeats 2000000 in
set_option maxRecDepth 100000 in
theorem whole_6 (n : Int) (w : World) (_h0 : 0 ≤ n) (_h1 : n < 18446744073709551616) (hT : Tabs w) :
    Calls Tryz.prog 4 #[.int .u8 6, .int .u64 n] w fun e w' => e = .returned (.bool true) ∧ Below w.heap.size w w' := by
  obtain ⟨i0, hi, hz0, hz1, hz2⟩ := info_parts infoByte
  obtain ⟨M, HM⟩ : ∃ M : Nat, n % 65536 = (M : Int) := Int.eq_ofNat_of_zero_le (by omega)
  have hM : M < 65536 := by omega
  have hw : IntKind.u64.wrap (n * 281474976710656) / 281474976710656 = (M : Int) := by rw [IntKind.wrap_u64]; omega
  have TI := text_int 6 M 2 (by decide) (by decide) (by decide) hM
  have UB := uns_back 6 M 2 (by decide) (by decide) (by decide) hM
  simp only [Nat.reduceMul, Nat.reducePow] at UB
  have HX : Hid (str (txS 6 (bytesL (M : Int) 2)) = str (Lib.decDigits M) ∧ txE 6 (bytesL (M : Int) 2) = 0) := by show _ ∧ _; rw [TI.2.2.2 (by decide)]; exact ⟨rfl, TI.1⟩
  have D0 := digits_any M (by omega)
  have L0 := dec_length M (by omega)
  have V0 := fun w hT => valueInt_any 6 (Lib.decDigits M) w (by decide) (by omega) hT
  have V2 := fun w hT => valueInt_any 6 [45, 49] w (by decide) (by decide) hT
  have D1 := digits_any 65536 (by decide)
  have L1 := dec_length 65536 (by decide)
  have V1 := fun w hT => valueInt_any 6 (Lib.decDigits 65536) w (by decide) (by omega) hT
  rw [UB.2.1] at V1
  rw [UB.1] at V0
  rw [UB.2.2.1] at V2
  have VX : ∀ X : List UInt8, X.length = 16 → hexF true 0 X = some M → ∀ w, Tabs w → Calls Tryz.prog 6 #[.int .u8 6, .string (⟨#[48, 120]⟩ ++ str X)] w (ValueTo w (some (bytesL (M : Int) 2))) := fun X hl h w hT => by
    have := valueInt_any 6 (48 :: 120 :: X) w (by decide) (by rw [List.length_cons, List.length_cons]; omega) hT
    rw [UB.2.2.2 X hl h] at this
    rw [show (⟨#[48, 120]⟩ : ByteArray) = str [48, 120] from rfl, str_append]
    exact this
  obtain ⟨s0, HS0⟩ : ∃ s, Hid (str (Lib.decDigits M) = s) := ⟨_, rfl⟩
  rw [HS0.out] at D0 V0 HX
  obtain ⟨s1, HS1⟩ : ∃ s, Hid (str (Lib.decDigits 65536) = s) := ⟨_, rfl⟩
  rw [HS1.out] at D1 V1
  have HD1 : Hid (∀ w : World, Calls Tryz.prog 10 #[.int .u64 65536] w fun e w' => e = .returned (.string s1) ∧ Below w.heap.size w w') := D1
  have HD0 : Hid (∀ w : World, Calls Tryz.prog 10 #[.int .u64 (M : Int)] w fun e w' => e = .returned (.string s0) ∧ Below w.heap.size w w') := D0
  have HV0 : Hid (∀ (w : World), Tabs w → Calls Tryz.prog 6 #[.int .u8 6, .string s0] w (ValueTo w (some (bytesL (M : Int) 2)))) := V0
  have HV1 : Hid (∀ (w : World), Tabs w → Calls Tryz.prog 6 #[.int .u8 6, .string s1] w (ValueTo w none)) := V1
  have HV2 : Hid (∀ (w : World), Tabs w → Calls Tryz.prog 6 #[.int .u8 6, .string ⟨#[45, 49]⟩] w (ValueTo w none)) := V2
  have HVX : Hid (∀ X : List UInt8, X.length = 16 → hexF true 0 X = some M → ∀ w, Tabs w → Calls Tryz.prog 6 #[.int .u8 6, .string (⟨#[48, 120]⟩ ++ str X)] w (ValueTo w (some (bytesL (M : Int) 2)))) := VX
  clear D0 V0 V1 V2 VX UB TI L0 HS0 HM D1 L1 HS1
  go_enter Tryz.func4, Tryz.ntmps4
  go_wp2_with fail
  refine (refSize_any _ _).mono ?_
  rw [show sizeN 6 = 2 from by decide, show decide ((0 : Int) < 2) = true from by decide]
  rintro e w ⟨rfl, rfl⟩
  go_wp2_with fail
  refine (refKind_any _ _).mono ?_
  rw [show letN 6 = 117 from by decide]
  rintro e w ⟨rfl, rfl⟩
  go_wp2_with fail
  go_loopw [9, 10] (fun v i wr => ∃ k : Nat, k ≤ 2 ∧ i = .int .i64 (k : Int) ∧ Below w.heap.size w wr ∧ wr.ownsRow w.heap.size 5 1 v k ((bytesL (M : Int) k).map (Value.int .u8)))
    (fun _ i _ => 2 - (intOf i).toNat)
  case atStart => exact ⟨0, Nat.zero_le _, rfl, Below.refl _ _, World.ownsRow_nil _ _ _ _⟩
  case round =>
    obtain ⟨k, hk, rfl, hb, hown⟩ := hrel
    by_cases hlt : k < 2
    · have hlt' : (k : Int) < 2 := by omega
      have hk0 : (0 : Int) ≤ (k : Int) := by omega
      have BS : Hid (bytesL (M : Int) (k + 1) = bytesL (M : Int) k ++ [(M : Int) / 2 ^ (8 * k) % 256]) := bytesL_snoc (M : Int) k
      go_wp2_with (at_builtin; refine wpList_append_own _ rfl _ _ 23 rfl w.heap.size 5 i0 (.int .u8 0) 1 1 Tryz.underlying23 hi hz0 hz1 hz2 rfl (by decide) _ _ _ rfl (hown.alloc _) ⟨wr.heap.size, 0, none⟩ 1 1 [.int .u8 ((M : Int) / 2 ^ (8 * k) % 256)] rfl rfl ?c1 ?c2 ?c3 ?c4 ?c5 ?_)
      case c1 =>
        intro j u hj
        match j, hj with
        | 0, hj => simp at hj; subst hj; simp [Addr.add]
      case c2 => intro u hu; simp at hu; subst hu; rfl
      case c3 => unfold maxLen; omega
      case c4 => omega
      case c5 => have := hb.size; simp; omega
      intro v' w2 hown' hgrow _
      go_wp2_with fail
      refine ⟨⟨k + 1, by omega, by go_num, (Below.al hb _).grown hgrow (by have := hb.size; simp; omega) (fun j hj => (hown.lt j hj).1), ?_⟩, by simp [intOf]; omega⟩
      rw [BS.out, List.map_append]
      exact hown'
    · obtain rfl : k = 2 := by omega
      obtain ⟨a, cap, rfl, lc, cm, rb⟩ := ownRow hown rfl (bytesL_oct _ _) (bytesL_length _ _)
      clear hown
      generalize bytesL (M : Int) 2 = Z at *
      have tb := hT.next hb
      go_wp2_with fail
      refine (HD0.out _).mono ?_
      rintro e w1 ⟨rfl, hb1⟩
      have t2 := tb.next hb1
      have r2 := rb.next hb1
      have B2 := Below.andThen hb hb1
      clear hb1 tb rb hb
      go_wp2_with fail
      refine (text_any 6 a 2 cap Z _ r2 t2 lc cm).mono ?_
      rw [HX.out.1, HX.out.2]
      rintro e w3 ⟨rfl, hb3⟩
      have t3 := t2.next hb3
      have r3 := r2.next hb3
      have B3 := Below.andThen B2 hb3
      clear t2 r2 B2 hb3
      go_wp2_with fail
      refine (HV0.out _ t3).mono ?_
      rintro e w4 ⟨⟨a', len', cap', rfl, told⟩, hb4⟩
      have t4 := t3.next hb4
      have c1 := told.row.str' cap'
      have c2 := (r3.next hb4).str' cap
      have r4 := r3.next hb4
      have B4 := Below.andThen B3 hb4
      clear t3 r3 B3 hb4 told
      go_wp2_with fail
      refine (HD1.out _).mono ?_
      rintro e w6 ⟨rfl, hb6⟩
      clear c1 c2
      have t6 := t4.next hb6
      have r6 := r4.next hb6
      have B6 := Below.andThen B4 hb6
      clear hb6 t4 B4 r4
      go_wp2_with fail
      refine (HV2.out _ t6).mono ?_
      rintro e w7 ⟨rfl, hb7⟩
      go_wp2_with fail
      refine (HV1.out _ (t6.next hb7)).mono ?_
      rintro e w8 ⟨rfl, hb8⟩
      have b8 := Below.andThen hb7 hb8
      have t8 := t6.next b8
      have r8 := r6.next b8
      have B8 := Below.andThen B6 b8
      clear hb7 hb8 b8 t6 B6 r6
      go_wp2_with fail
      go_loop [1, 22, 23] (fun n x i => ∃ (k q : Nat) (X : List UInt8), k ≤ 16 ∧ i = .int .i64 (k : Int) ∧ n = .int .u64 (q : Int) ∧ x = .string (str X) ∧ q = M / 16 ^ k ∧ X.length = k ∧ hexF true 0 X = some (M % 16 ^ k)) (fun _ _ i => 16 - (intOf i).toNat)
      case atStart => exact ⟨0, M, [], Nat.zero_le _, rfl, rfl, rfl, by simp, rfl, by simp [hexF, Nat.mod_one]⟩
      case round =>
        obtain ⟨k, q, X, hk, rfl, rfl, rfl, hq, hl, hf⟩ := hrel
        have hq1 : q < 18446744073709551616 := by rw [hq]; exact Nat.lt_of_le_of_lt (Nat.div_le_self _ _) (by omega)
        by_cases hlt : k < 16
        · have hlt' : (k : Int) < 16 := by omega
          have a15 := and15v (q : Int) (by omega) (by omega)
          have sl := slice16 ((q : Int) % 16) (by omega) (by omega)
          have w1 : IntKind.u64.wrap ((q : Int) % 16 + 1) = (q : Int) % 16 + 1 := u64_wrap_id _ (by omega) (by omega)
          have HC : Hid (hexF true 0 (hexG (q % 16) :: X) = some (M % 16 ^ (k + 1))) := hex_cons X M k (q % 16) hl hf (by rw [hq])
          have HQ : Hid (q / 16 = M / 16 ^ (k + 1)) := by show _ = _; rw [hq, Nat.div_div_eq_div_mul, ← Nat.pow_succ]
          obtain ⟨sx, HSX⟩ : ∃ s, Hid (str X = s) := ⟨_, rfl⟩
          obtain ⟨sd, HSD⟩ : ∃ s, Hid (str [hexG ((q : Int) % 16).toNat] = s) := ⟨_, rfl⟩
          have z1 : sx.size ≤ 16 := by rw [← HSX.out]; show X.toArray.size ≤ 16; rw [List.size_toArray]; omega
          have z2 : sd.size = 1 := by rw [← HSD.out]; rfl
          have ad := add_run sd sx (by omega)
          have HA : Hid (sd ++ sx = str (hexG (q % 16) :: X)) := by show _ = _; rw [← HSX.out, ← HSD.out, str_append, show ((q : Int) % 16).toNat = q % 16 from by omega]; rfl
          rw [HSD.out] at sl
          rw [HSX.out]
          clear hf hq z1 z2
          go_wp2_with fail
          exact ⟨⟨k + 1, q / 16, hexG (q % 16) :: X, by omega, by go_num, congrArg (Value.int .u64) (by omega), congrArg Value.string HA.out, HQ.out, by rw [List.length_cons, hl], HC.out⟩, by simp [intOf]; omega⟩
        · obtain rfl : k = 16 := by omega
          have hf' : hexF true 0 X = some M := by rw [hf, Nat.mod_eq_of_lt (by show M < 18446744073709551616; omega)]
          have HV := HVX.out X hl hf'
          have zx : (str X).size = 16 := by show X.toArray.size = 16; rw [List.size_toArray]; exact hl
          obtain ⟨sx, HSX⟩ : ∃ s, Hid (str X = s) := ⟨_, rfl⟩
          rw [HSX.out] at HV zx
          rw [HSX.out]
          have HV' : Hid (∀ (w : World), Tabs w → Calls Tryz.prog 6 #[.int .u8 6, .string (⟨#[48, 120]⟩ ++ sx)] w (ValueTo w (some Z))) := HV
          have ad := add_run ⟨#[48, 120]⟩ sx (by have : (⟨#[48, 120]⟩ : ByteArray).size = 2 := rfl; omega)
          clear hf hf' hq hl HV zx
          go_wp2_with fail
          refine (HV'.out _ t8).mono ?_
          rintro e w9 ⟨⟨a9, len9, cap9, rfl, told⟩, hb9⟩
          have c1 := told.row.str' cap9
          have c2 := (r8.next hb9).str' cap
          have t9 := t8.next hb9
          have B9 := Below.andThen B8 hb9
          clear told hb9 t8 B8 r8
          go_wp2_with fail
          refine (works_any _ t9).mono ?_
          rintro e w10 ⟨rfl, hb10⟩
          go_wp2_with fail
          go_ret
          exact ⟨rfl, Below.andThen B9 hb10⟩
#print axioms whole_6

set_option maxHeartbeats 2000000 in
set_option maxRecDepth 100000 in
theorem whole_22 (n : Int) (w : World) (_h0 : 0 ≤ n) (_h1 : n < 18446744073709551616) (hT : Tabs w) :
    Calls Tryz.prog 4 #[.int .u8 22, .int .u64 n] w fun e w' => e = .returned (.bool true) ∧ Below w.heap.size w w' := by
  obtain ⟨i0, hi, hz0, hz1, hz2⟩ := info_parts infoByte
  obtain ⟨M, HM⟩ : ∃ M : Nat, n % 16777216 = (M : Int) := Int.eq_ofNat_of_zero_le (by omega)
  have hM : M < 16777216 := by omega
  have hw : IntKind.u64.wrap (n * 1099511627776) / 1099511627776 = (M : Int) := by rw [IntKind.wrap_u64]; omega
  have TI := text_int 22 M 3 (by decide) (by decide) (by decide) hM
  have UB := uns_back 22 M 3 (by decide) (by decide) (by decide) hM
  simp only [Nat.reduceMul, Nat.reducePow] at UB
  have HX : Hid (str (txS 22 (bytesL (M : Int) 3)) = str (Lib.decDigits M) ∧ txE 22 (bytesL (M : Int) 3) = 0) := by show _ ∧ _; rw [TI.2.2.2 (by decide)]; exact ⟨rfl, TI.1⟩
  have D0 := digits_any M (by omega)
  have L0 := dec_length M (by omega)
  have V0 := fun w hT => valueInt_any 22 (Lib.decDigits M) w (by decide) (by omega) hT
  have V2 := fun w hT => valueInt_any 22 [45, 49] w (by decide) (by decide) hT
  have D1 := digits_any 16777216 (by decide)
  have L1 := dec_length 16777216 (by decide)
  have V1 := fun w hT => valueInt_any 22 (Lib.decDigits 16777216) w (by decide) (by omega) hT
  rw [UB.2.1] at V1
  rw [UB.1] at V0
  rw [UB.2.2.1] at V2
  have VX : ∀ X : List UInt8, X.length = 16 → hexF true 0 X = some M → ∀ w, Tabs w → Calls Tryz.prog 6 #[.int .u8 22, .string (⟨#[48, 120]⟩ ++ str X)] w (ValueTo w (some (bytesL (M : Int) 3))) := fun X hl h w hT => by
    have := valueInt_any 22 (48 :: 120 :: X) w (by decide) (by rw [List.length_cons, List.length_cons]; omega) hT
    rw [UB.2.2.2 X hl h] at this
    rw [show (⟨#[48, 120]⟩ : ByteArray) = str [48, 120] from rfl, str_append]
    exact this
  obtain ⟨s0, HS0⟩ : ∃ s, Hid (str (Lib.decDigits M) = s) := ⟨_, rfl⟩
  rw [HS0.out] at D0 V0 HX
  obtain ⟨s1, HS1⟩ : ∃ s, Hid (str (Lib.decDigits 16777216) = s) := ⟨_, rfl⟩
  rw [HS1.out] at D1 V1
  have HD1 : Hid (∀ w : World, Calls Tryz.prog 10 #[.int .u64 16777216] w fun e w' => e = .returned (.string s1) ∧ Below w.heap.size w w') := D1
  have HD0 : Hid (∀ w : World, Calls Tryz.prog 10 #[.int .u64 (M : Int)] w fun e w' => e = .returned (.string s0) ∧ Below w.heap.size w w') := D0
  have HV0 : Hid (∀ (w : World), Tabs w → Calls Tryz.prog 6 #[.int .u8 22, .string s0] w (ValueTo w (some (bytesL (M : Int) 3)))) := V0
  have HV1 : Hid (∀ (w : World), Tabs w → Calls Tryz.prog 6 #[.int .u8 22, .string s1] w (ValueTo w none)) := V1
  have HV2 : Hid (∀ (w : World), Tabs w → Calls Tryz.prog 6 #[.int .u8 22, .string ⟨#[45, 49]⟩] w (ValueTo w none)) := V2
  have HVX : Hid (∀ X : List UInt8, X.length = 16 → hexF true 0 X = some M → ∀ w, Tabs w → Calls Tryz.prog 6 #[.int .u8 22, .string (⟨#[48, 120]⟩ ++ str X)] w (ValueTo w (some (bytesL (M : Int) 3)))) := VX
  clear D0 V0 V1 V2 VX UB TI L0 HS0 HM D1 L1 HS1
  go_enter Tryz.func4, Tryz.ntmps4
  go_wp2_with fail
  refine (refSize_any _ _).mono ?_
  rw [show sizeN 22 = 3 from by decide, show decide ((0 : Int) < 3) = true from by decide]
  rintro e w ⟨rfl, rfl⟩
  go_wp2_with fail
  refine (refKind_any _ _).mono ?_
  rw [show letN 22 = 117 from by decide]
  rintro e w ⟨rfl, rfl⟩
  go_wp2_with fail
  go_loopw [9, 10] (fun v i wr => ∃ k : Nat, k ≤ 3 ∧ i = .int .i64 (k : Int) ∧ Below w.heap.size w wr ∧ wr.ownsRow w.heap.size 5 1 v k ((bytesL (M : Int) k).map (Value.int .u8)))
    (fun _ i _ => 3 - (intOf i).toNat)
  case atStart => exact ⟨0, Nat.zero_le _, rfl, Below.refl _ _, World.ownsRow_nil _ _ _ _⟩
  case round =>
    obtain ⟨k, hk, rfl, hb, hown⟩ := hrel
    by_cases hlt : k < 3
    · have hlt' : (k : Int) < 3 := by omega
      have hk0 : (0 : Int) ≤ (k : Int) := by omega
      have BS : Hid (bytesL (M : Int) (k + 1) = bytesL (M : Int) k ++ [(M : Int) / 2 ^ (8 * k) % 256]) := bytesL_snoc (M : Int) k
      go_wp2_with (at_builtin; refine wpList_append_own _ rfl _ _ 23 rfl w.heap.size 5 i0 (.int .u8 0) 1 1 Tryz.underlying23 hi hz0 hz1 hz2 rfl (by decide) _ _ _ rfl (hown.alloc _) ⟨wr.heap.size, 0, none⟩ 1 1 [.int .u8 ((M : Int) / 2 ^ (8 * k) % 256)] rfl rfl ?c1 ?c2 ?c3 ?c4 ?c5 ?_)
      case c1 =>
        intro j u hj
        match j, hj with
        | 0, hj => simp at hj; subst hj; simp [Addr.add]
      case c2 => intro u hu; simp at hu; subst hu; rfl
      case c3 => unfold maxLen; omega
      case c4 => omega
      case c5 => have := hb.size; simp; omega
      intro v' w2 hown' hgrow _
      go_wp2_with fail
      refine ⟨⟨k + 1, by omega, by go_num, (Below.al hb _).grown hgrow (by have := hb.size; simp; omega) (fun j hj => (hown.lt j hj).1), ?_⟩, by simp [intOf]; omega⟩
      rw [BS.out, List.map_append]
      exact hown'
    · obtain rfl : k = 3 := by omega
      obtain ⟨a, cap, rfl, lc, cm, rb⟩ := ownRow hown rfl (bytesL_oct _ _) (bytesL_length _ _)
      clear hown
      generalize bytesL (M : Int) 3 = Z at *
      have tb := hT.next hb
      go_wp2_with fail
      refine (HD0.out _).mono ?_
      rintro e w1 ⟨rfl, hb1⟩
      have t2 := tb.next hb1
      have r2 := rb.next hb1
      have B2 := Below.andThen hb hb1
      clear hb1 tb rb hb
      go_wp2_with fail
      refine (text_any 22 a 3 cap Z _ r2 t2 lc cm).mono ?_
      rw [HX.out.1, HX.out.2]
      rintro e w3 ⟨rfl, hb3⟩
      have t3 := t2.next hb3
      have r3 := r2.next hb3
      have B3 := Below.andThen B2 hb3
      clear t2 r2 B2 hb3
      go_wp2_with fail
      refine (HV0.out _ t3).mono ?_
      rintro e w4 ⟨⟨a', len', cap', rfl, told⟩, hb4⟩
      have t4 := t3.next hb4
      have c1 := told.row.str' cap'
      have c2 := (r3.next hb4).str' cap
      have r4 := r3.next hb4
      have B4 := Below.andThen B3 hb4
      clear t3 r3 B3 hb4 told
      go_wp2_with fail
      refine (HD1.out _).mono ?_
      rintro e w6 ⟨rfl, hb6⟩
      clear c1 c2
      have t6 := t4.next hb6
      have r6 := r4.next hb6
      have B6 := Below.andThen B4 hb6
      clear hb6 t4 B4 r4
      go_wp2_with fail
      refine (HV2.out _ t6).mono ?_
      rintro e w7 ⟨rfl, hb7⟩
      go_wp2_with fail
      refine (HV1.out _ (t6.next hb7)).mono ?_
      rintro e w8 ⟨rfl, hb8⟩
      have b8 := Below.andThen hb7 hb8
      have t8 := t6.next b8
      have r8 := r6.next b8
      have B8 := Below.andThen B6 b8
      clear hb7 hb8 b8 t6 B6 r6
      go_wp2_with fail
      go_loop [1, 22, 23] (fun n x i => ∃ (k q : Nat) (X : List UInt8), k ≤ 16 ∧ i = .int .i64 (k : Int) ∧ n = .int .u64 (q : Int) ∧ x = .string (str X) ∧ q = M / 16 ^ k ∧ X.length = k ∧ hexF true 0 X = some (M % 16 ^ k)) (fun _ _ i => 16 - (intOf i).toNat)
      case atStart => exact ⟨0, M, [], Nat.zero_le _, rfl, rfl, rfl, by simp, rfl, by simp [hexF, Nat.mod_one]⟩
      case round =>
        obtain ⟨k, q, X, hk, rfl, rfl, rfl, hq, hl, hf⟩ := hrel
        have hq1 : q < 18446744073709551616 := by rw [hq]; exact Nat.lt_of_le_of_lt (Nat.div_le_self _ _) (by omega)
        by_cases hlt : k < 16
        · have hlt' : (k : Int) < 16 := by omega
          have a15 := and15v (q : Int) (by omega) (by omega)
          have sl := slice16 ((q : Int) % 16) (by omega) (by omega)
          have w1 : IntKind.u64.wrap ((q : Int) % 16 + 1) = (q : Int) % 16 + 1 := u64_wrap_id _ (by omega) (by omega)
          have HC : Hid (hexF true 0 (hexG (q % 16) :: X) = some (M % 16 ^ (k + 1))) := hex_cons X M k (q % 16) hl hf (by rw [hq])
          have HQ : Hid (q / 16 = M / 16 ^ (k + 1)) := by show _ = _; rw [hq, Nat.div_div_eq_div_mul, ← Nat.pow_succ]
          obtain ⟨sx, HSX⟩ : ∃ s, Hid (str X = s) := ⟨_, rfl⟩
          obtain ⟨sd, HSD⟩ : ∃ s, Hid (str [hexG ((q : Int) % 16).toNat] = s) := ⟨_, rfl⟩
          have z1 : sx.size ≤ 16 := by rw [← HSX.out]; show X.toArray.size ≤ 16; rw [List.size_toArray]; omega
          have z2 : sd.size = 1 := by rw [← HSD.out]; rfl
          have ad := add_run sd sx (by omega)
          have HA : Hid (sd ++ sx = str (hexG (q % 16) :: X)) := by show _ = _; rw [← HSX.out, ← HSD.out, str_append, show ((q : Int) % 16).toNat = q % 16 from by omega]; rfl
          rw [HSD.out] at sl
          rw [HSX.out]
          clear hf hq z1 z2
          go_wp2_with fail
          exact ⟨⟨k + 1, q / 16, hexG (q % 16) :: X, by omega, by go_num, congrArg (Value.int .u64) (by omega), congrArg Value.string HA.out, HQ.out, by rw [List.length_cons, hl], HC.out⟩, by simp [intOf]; omega⟩
        · obtain rfl : k = 16 := by omega
          have hf' : hexF true 0 X = some M := by rw [hf, Nat.mod_eq_of_lt (by show M < 18446744073709551616; omega)]
          have HV := HVX.out X hl hf'
          have zx : (str X).size = 16 := by show X.toArray.size = 16; rw [List.size_toArray]; exact hl
          obtain ⟨sx, HSX⟩ : ∃ s, Hid (str X = s) := ⟨_, rfl⟩
          rw [HSX.out] at HV zx
          rw [HSX.out]
          have HV' : Hid (∀ (w : World), Tabs w → Calls Tryz.prog 6 #[.int .u8 22, .string (⟨#[48, 120]⟩ ++ sx)] w (ValueTo w (some Z))) := HV
          have ad := add_run ⟨#[48, 120]⟩ sx (by have : (⟨#[48, 120]⟩ : ByteArray).size = 2 := rfl; omega)
          clear hf hf' hq hl HV zx
          go_wp2_with fail
          refine (HV'.out _ t8).mono ?_
          rintro e w9 ⟨⟨a9, len9, cap9, rfl, told⟩, hb9⟩
          have c1 := told.row.str' cap9
          have c2 := (r8.next hb9).str' cap
          have t9 := t8.next hb9
          have B9 := Below.andThen B8 hb9
          clear told hb9 t8 B8 r8
          go_wp2_with fail
          refine (works_any _ t9).mono ?_
          rintro e w10 ⟨rfl, hb10⟩
          go_wp2_with fail
          go_ret
          exact ⟨rfl, Below.andThen B9 hb10⟩
#print axioms whole_22

set_option maxHeartbeats 2000000 in
set_option maxRecDepth 100000 in
theorem whole_7 (n : Int) (w : World) (_h0 : 0 ≤ n) (_h1 : n < 18446744073709551616) (hT : Tabs w) :
    Calls Tryz.prog 4 #[.int .u8 7, .int .u64 n] w fun e w' => e = .returned (.bool true) ∧ Below w.heap.size w w' := by
  obtain ⟨i0, hi, hz0, hz1, hz2⟩ := info_parts infoByte
  obtain ⟨M, HM⟩ : ∃ M : Nat, n % 4294967296 = (M : Int) := Int.eq_ofNat_of_zero_le (by omega)
  have hM : M < 4294967296 := by omega
  have hw : IntKind.u64.wrap (n * 4294967296) / 4294967296 = (M : Int) := by rw [IntKind.wrap_u64]; omega
  have TI := text_int 7 M 4 (by decide) (by decide) (by decide) hM
  have UB := uns_back 7 M 4 (by decide) (by decide) (by decide) hM
  simp only [Nat.reduceMul, Nat.reducePow] at UB
  have HX : Hid (str (txS 7 (bytesL (M : Int) 4)) = str (Lib.decDigits M) ∧ txE 7 (bytesL (M : Int) 4) = 0) := by show _ ∧ _; rw [TI.2.2.2 (by decide)]; exact ⟨rfl, TI.1⟩
  have D0 := digits_any M (by omega)
  have L0 := dec_length M (by omega)
  have V0 := fun w hT => valueInt_any 7 (Lib.decDigits M) w (by decide) (by omega) hT
  have V2 := fun w hT => valueInt_any 7 [45, 49] w (by decide) (by decide) hT
  have D1 := digits_any 4294967296 (by decide)
  have L1 := dec_length 4294967296 (by decide)
  have V1 := fun w hT => valueInt_any 7 (Lib.decDigits 4294967296) w (by decide) (by omega) hT
  rw [UB.2.1] at V1
  rw [UB.1] at V0
  rw [UB.2.2.1] at V2
  have VX : ∀ X : List UInt8, X.length = 16 → hexF true 0 X = some M → ∀ w, Tabs w → Calls Tryz.prog 6 #[.int .u8 7, .string (⟨#[48, 120]⟩ ++ str X)] w (ValueTo w (some (bytesL (M : Int) 4))) := fun X hl h w hT => by
    have := valueInt_any 7 (48 :: 120 :: X) w (by decide) (by rw [List.length_cons, List.length_cons]; omega) hT
    rw [UB.2.2.2 X hl h] at this
    rw [show (⟨#[48, 120]⟩ : ByteArray) = str [48, 120] from rfl, str_append]
    exact this
  obtain ⟨s0, HS0⟩ : ∃ s, Hid (str (Lib.decDigits M) = s) := ⟨_, rfl⟩
  rw [HS0.out] at D0 V0 HX
  obtain ⟨s1, HS1⟩ : ∃ s, Hid (str (Lib.decDigits 4294967296) = s) := ⟨_, rfl⟩
  rw [HS1.out] at D1 V1
  have HD1 : Hid (∀ w : World, Calls Tryz.prog 10 #[.int .u64 4294967296] w fun e w' => e = .returned (.string s1) ∧ Below w.heap.size w w') := D1
  have HD0 : Hid (∀ w : World, Calls Tryz.prog 10 #[.int .u64 (M : Int)] w fun e w' => e = .returned (.string s0) ∧ Below w.heap.size w w') := D0
  have HV0 : Hid (∀ (w : World), Tabs w → Calls Tryz.prog 6 #[.int .u8 7, .string s0] w (ValueTo w (some (bytesL (M : Int) 4)))) := V0
  have HV1 : Hid (∀ (w : World), Tabs w → Calls Tryz.prog 6 #[.int .u8 7, .string s1] w (ValueTo w none)) := V1
  have HV2 : Hid (∀ (w : World), Tabs w → Calls Tryz.prog 6 #[.int .u8 7, .string ⟨#[45, 49]⟩] w (ValueTo w none)) := V2
  have HVX : Hid (∀ X : List UInt8, X.length = 16 → hexF true 0 X = some M → ∀ w, Tabs w → Calls Tryz.prog 6 #[.int .u8 7, .string (⟨#[48, 120]⟩ ++ str X)] w (ValueTo w (some (bytesL (M : Int) 4)))) := VX
  clear D0 V0 V1 V2 VX UB TI L0 HS0 HM D1 L1 HS1
  go_enter Tryz.func4, Tryz.ntmps4
  go_wp2_with fail
  refine (refSize_any _ _).mono ?_
  rw [show sizeN 7 = 4 from by decide, show decide ((0 : Int) < 4) = true from by decide]
  rintro e w ⟨rfl, rfl⟩
  go_wp2_with fail
  refine (refKind_any _ _).mono ?_
  rw [show letN 7 = 117 from by decide]
  rintro e w ⟨rfl, rfl⟩
  go_wp2_with fail
  go_loopw [9, 10] (fun v i wr => ∃ k : Nat, k ≤ 4 ∧ i = .int .i64 (k : Int) ∧ Below w.heap.size w wr ∧ wr.ownsRow w.heap.size 5 1 v k ((bytesL (M : Int) k).map (Value.int .u8)))
    (fun _ i _ => 4 - (intOf i).toNat)
  case atStart => exact ⟨0, Nat.zero_le _, rfl, Below.refl _ _, World.ownsRow_nil _ _ _ _⟩
  case round =>
    obtain ⟨k, hk, rfl, hb, hown⟩ := hrel
    by_cases hlt : k < 4
    · have hlt' : (k : Int) < 4 := by omega
      have hk0 : (0 : Int) ≤ (k : Int) := by omega
      have BS : Hid (bytesL (M : Int) (k + 1) = bytesL (M : Int) k ++ [(M : Int) / 2 ^ (8 * k) % 256]) := bytesL_snoc (M : Int) k
      go_wp2_with (at_builtin; refine wpList_append_own _ rfl _ _ 23 rfl w.heap.size 5 i0 (.int .u8 0) 1 1 Tryz.underlying23 hi hz0 hz1 hz2 rfl (by decide) _ _ _ rfl (hown.alloc _) ⟨wr.heap.size, 0, none⟩ 1 1 [.int .u8 ((M : Int) / 2 ^ (8 * k) % 256)] rfl rfl ?c1 ?c2 ?c3 ?c4 ?c5 ?_)
      case c1 =>
        intro j u hj
        match j, hj with
        | 0, hj => simp at hj; subst hj; simp [Addr.add]
      case c2 => intro u hu; simp at hu; subst hu; rfl
      case c3 => unfold maxLen; omega
      case c4 => omega
      case c5 => have := hb.size; simp; omega
      intro v' w2 hown' hgrow _
      go_wp2_with fail
      refine ⟨⟨k + 1, by omega, by go_num, (Below.al hb _).grown hgrow (by have := hb.size; simp; omega) (fun j hj => (hown.lt j hj).1), ?_⟩, by simp [intOf]; omega⟩
      rw [BS.out, List.map_append]
      exact hown'
    · obtain rfl : k = 4 := by omega
      obtain ⟨a, cap, rfl, lc, cm, rb⟩ := ownRow hown rfl (bytesL_oct _ _) (bytesL_length _ _)
      clear hown
      generalize bytesL (M : Int) 4 = Z at *
      have tb := hT.next hb
      go_wp2_with fail
      refine (HD0.out _).mono ?_
      rintro e w1 ⟨rfl, hb1⟩
      have t2 := tb.next hb1
      have r2 := rb.next hb1
      have B2 := Below.andThen hb hb1
      clear hb1 tb rb hb
      go_wp2_with fail
      refine (text_any 7 a 4 cap Z _ r2 t2 lc cm).mono ?_
      rw [HX.out.1, HX.out.2]
      rintro e w3 ⟨rfl, hb3⟩
      have t3 := t2.next hb3
      have r3 := r2.next hb3
      have B3 := Below.andThen B2 hb3
      clear t2 r2 B2 hb3
      go_wp2_with fail
      refine (HV0.out _ t3).mono ?_
      rintro e w4 ⟨⟨a', len', cap', rfl, told⟩, hb4⟩
      have t4 := t3.next hb4
      have c1 := told.row.str' cap'
      have c2 := (r3.next hb4).str' cap
      have r4 := r3.next hb4
      have B4 := Below.andThen B3 hb4
      clear t3 r3 B3 hb4 told
      go_wp2_with fail
      refine (HD1.out _).mono ?_
      rintro e w6 ⟨rfl, hb6⟩
      clear c1 c2
      have t6 := t4.next hb6
      have r6 := r4.next hb6
      have B6 := Below.andThen B4 hb6
      clear hb6 t4 B4 r4
      go_wp2_with fail
      refine (HV2.out _ t6).mono ?_
      rintro e w7 ⟨rfl, hb7⟩
      go_wp2_with fail
      refine (HV1.out _ (t6.next hb7)).mono ?_
      rintro e w8 ⟨rfl, hb8⟩
      have b8 := Below.andThen hb7 hb8
      have t8 := t6.next b8
      have r8 := r6.next b8
      have B8 := Below.andThen B6 b8
      clear hb7 hb8 b8 t6 B6 r6
      go_wp2_with fail
      go_loop [1, 22, 23] (fun n x i => ∃ (k q : Nat) (X : List UInt8), k ≤ 16 ∧ i = .int .i64 (k : Int) ∧ n = .int .u64 (q : Int) ∧ x = .string (str X) ∧ q = M / 16 ^ k ∧ X.length = k ∧ hexF true 0 X = some (M % 16 ^ k)) (fun _ _ i => 16 - (intOf i).toNat)
      case atStart => exact ⟨0, M, [], Nat.zero_le _, rfl, rfl, rfl, by simp, rfl, by simp [hexF, Nat.mod_one]⟩
      case round =>
        obtain ⟨k, q, X, hk, rfl, rfl, rfl, hq, hl, hf⟩ := hrel
        have hq1 : q < 18446744073709551616 := by rw [hq]; exact Nat.lt_of_le_of_lt (Nat.div_le_self _ _) (by omega)
        by_cases hlt : k < 16
        · have hlt' : (k : Int) < 16 := by omega
          have a15 := and15v (q : Int) (by omega) (by omega)
          have sl := slice16 ((q : Int) % 16) (by omega) (by omega)
          have w1 : IntKind.u64.wrap ((q : Int) % 16 + 1) = (q : Int) % 16 + 1 := u64_wrap_id _ (by omega) (by omega)
          have HC : Hid (hexF true 0 (hexG (q % 16) :: X) = some (M % 16 ^ (k + 1))) := hex_cons X M k (q % 16) hl hf (by rw [hq])
          have HQ : Hid (q / 16 = M / 16 ^ (k + 1)) := by show _ = _; rw [hq, Nat.div_div_eq_div_mul, ← Nat.pow_succ]
          obtain ⟨sx, HSX⟩ : ∃ s, Hid (str X = s) := ⟨_, rfl⟩
          obtain ⟨sd, HSD⟩ : ∃ s, Hid (str [hexG ((q : Int) % 16).toNat] = s) := ⟨_, rfl⟩
          have z1 : sx.size ≤ 16 := by rw [← HSX.out]; show X.toArray.size ≤ 16; rw [List.size_toArray]; omega
          have z2 : sd.size = 1 := by rw [← HSD.out]; rfl
          have ad := add_run sd sx (by omega)
          have HA : Hid (sd ++ sx = str (hexG (q % 16) :: X)) := by show _ = _; rw [← HSX.out, ← HSD.out, str_append, show ((q : Int) % 16).toNat = q % 16 from by omega]; rfl
          rw [HSD.out] at sl
          rw [HSX.out]
          clear hf hq z1 z2
          go_wp2_with fail
          exact ⟨⟨k + 1, q / 16, hexG (q % 16) :: X, by omega, by go_num, congrArg (Value.int .u64) (by omega), congrArg Value.string HA.out, HQ.out, by rw [List.length_cons, hl], HC.out⟩, by simp [intOf]; omega⟩
        · obtain rfl : k = 16 := by omega
          have hf' : hexF true 0 X = some M := by rw [hf, Nat.mod_eq_of_lt (by show M < 18446744073709551616; omega)]
          have HV := HVX.out X hl hf'
          have zx : (str X).size = 16 := by show X.toArray.size = 16; rw [List.size_toArray]; exact hl
          obtain ⟨sx, HSX⟩ : ∃ s, Hid (str X = s) := ⟨_, rfl⟩
          rw [HSX.out] at HV zx
          rw [HSX.out]
          have HV' : Hid (∀ (w : World), Tabs w → Calls Tryz.prog 6 #[.int .u8 7, .string (⟨#[48, 120]⟩ ++ sx)] w (ValueTo w (some Z))) := HV
          have ad := add_run ⟨#[48, 120]⟩ sx (by have : (⟨#[48, 120]⟩ : ByteArray).size = 2 := rfl; omega)
          clear hf hf' hq hl HV zx
          go_wp2_with fail
          refine (HV'.out _ t8).mono ?_
          rintro e w9 ⟨⟨a9, len9, cap9, rfl, told⟩, hb9⟩
          have c1 := told.row.str' cap9
          have c2 := (r8.next hb9).str' cap
          have t9 := t8.next hb9
          have B9 := Below.andThen B8 hb9
          clear told hb9 t8 B8 r8
          go_wp2_with fail
          refine (works_any _ t9).mono ?_
          rintro e w10 ⟨rfl, hb10⟩
          go_wp2_with fail
          go_ret
          exact ⟨rfl, Below.andThen B9 hb10⟩
#print axioms whole_7

set_option maxHeartbeats 2000000 in
set_option maxRecDepth 100000 in
theorem whole_27 (n : Int) (w : World) (_h0 : 0 ≤ n) (_h1 : n < 18446744073709551616) (hT : Tabs w) :
    Calls Tryz.prog 4 #[.int .u8 27, .int .u64 n] w fun e w' => e = .returned (.bool true) ∧ Below w.heap.size w w' := by
  obtain ⟨i0, hi, hz0, hz1, hz2⟩ := info_parts infoByte
  obtain ⟨M, HM⟩ : ∃ M : Nat, n % 18446744073709551616 = (M : Int) := Int.eq_ofNat_of_zero_le (by omega)
  have hM : M < 18446744073709551616 := by omega
  obtain rfl : n = (M : Int) := by omega
  have hw : IntKind.u64.wrap (M : Int) = (M : Int) := u64_wrap_id _ (by omega) (by omega)
  have TI := text_int 27 M 8 (by decide) (by decide) (by decide) hM
  have UB := uns_back 27 M 8 (by decide) (by decide) (by decide) hM
  simp only [Nat.reduceMul, Nat.reducePow] at UB
  have HX : Hid (str (txS 27 (bytesL (M : Int) 8)) = str (Lib.decDigits M) ∧ txE 27 (bytesL (M : Int) 8) = 0) := by show _ ∧ _; rw [TI.2.2.2 (by decide)]; exact ⟨rfl, TI.1⟩
  have D0 := digits_any M (by omega)
  have L0 := dec_length M (by omega)
  have V0 := fun w hT => valueInt_any 27 (Lib.decDigits M) w (by decide) (by omega) hT
  have V2 := fun w hT => valueInt_any 27 [45, 49] w (by decide) (by decide) hT
  have V1 := fun w hT => valueInt_any 27 [49, 56, 52, 52, 54, 55, 52, 52, 48, 55, 51, 55, 48, 57, 53, 53, 49, 54, 49, 54] w (by decide) (by decide) hT
  have hB : intV 27 [49, 56, 52, 52, 54, 55, 52, 52, 48, 55, 51, 55, 48, 57, 53, 53, 49, 54, 49, 54] = none := by rw [uns_int 27 _ 8 (by decide) (by decide), show (2 ^ (8 * 8) - 1 : Nat) = 18446744073709551615 from rfl, big_none]; rfl
  rw [hB] at V1
  rw [UB.1] at V0
  rw [UB.2.2.1] at V2
  have VX : ∀ X : List UInt8, X.length = 16 → hexF true 0 X = some M → ∀ w, Tabs w → Calls Tryz.prog 6 #[.int .u8 27, .string (⟨#[48, 120]⟩ ++ str X)] w (ValueTo w (some (bytesL (M : Int) 8))) := fun X hl h w hT => by
    have := valueInt_any 27 (48 :: 120 :: X) w (by decide) (by rw [List.length_cons, List.length_cons]; omega) hT
    rw [UB.2.2.2 X hl h] at this
    rw [show (⟨#[48, 120]⟩ : ByteArray) = str [48, 120] from rfl, str_append]
    exact this
  obtain ⟨s0, HS0⟩ : ∃ s, Hid (str (Lib.decDigits M) = s) := ⟨_, rfl⟩
  rw [HS0.out] at D0 V0 HX
  have HD0 : Hid (∀ w : World, Calls Tryz.prog 10 #[.int .u64 (M : Int)] w fun e w' => e = .returned (.string s0) ∧ Below w.heap.size w w') := D0
  have HV0 : Hid (∀ (w : World), Tabs w → Calls Tryz.prog 6 #[.int .u8 27, .string s0] w (ValueTo w (some (bytesL (M : Int) 8)))) := V0
  have HV1 : Hid (∀ (w : World), Tabs w → Calls Tryz.prog 6 #[.int .u8 27, .string ⟨#[49, 56, 52, 52, 54, 55, 52, 52, 48, 55, 51, 55, 48, 57, 53, 53, 49, 54, 49, 54]⟩] w (ValueTo w none)) := V1
  have HV2 : Hid (∀ (w : World), Tabs w → Calls Tryz.prog 6 #[.int .u8 27, .string ⟨#[45, 49]⟩] w (ValueTo w none)) := V2
  have HVX : Hid (∀ X : List UInt8, X.length = 16 → hexF true 0 X = some M → ∀ w, Tabs w → Calls Tryz.prog 6 #[.int .u8 27, .string (⟨#[48, 120]⟩ ++ str X)] w (ValueTo w (some (bytesL (M : Int) 8)))) := VX
  clear D0 V0 V1 V2 VX UB TI L0 HS0 HM hB
  go_enter Tryz.func4, Tryz.ntmps4
  go_wp2_with fail
  refine (refSize_any _ _).mono ?_
  rw [show sizeN 27 = 8 from by decide, show decide ((0 : Int) < 8) = true from by decide]
  rintro e w ⟨rfl, rfl⟩
  go_wp2_with fail
  refine (refKind_any _ _).mono ?_
  rw [show letN 27 = 117 from by decide]
  rintro e w ⟨rfl, rfl⟩
  go_wp2_with fail
  go_loopw [9, 10] (fun v i wr => ∃ k : Nat, k ≤ 8 ∧ i = .int .i64 (k : Int) ∧ Below w.heap.size w wr ∧ wr.ownsRow w.heap.size 5 1 v k ((bytesL (M : Int) k).map (Value.int .u8)))
    (fun _ i _ => 8 - (intOf i).toNat)
  case atStart => exact ⟨0, Nat.zero_le _, rfl, Below.refl _ _, World.ownsRow_nil _ _ _ _⟩
  case round =>
    obtain ⟨k, hk, rfl, hb, hown⟩ := hrel
    by_cases hlt : k < 8
    · have hlt' : (k : Int) < 8 := by omega
      have hk0 : (0 : Int) ≤ (k : Int) := by omega
      have BS : Hid (bytesL (M : Int) (k + 1) = bytesL (M : Int) k ++ [(M : Int) / 2 ^ (8 * k) % 256]) := bytesL_snoc (M : Int) k
      go_wp2_with (at_builtin; refine wpList_append_own _ rfl _ _ 23 rfl w.heap.size 5 i0 (.int .u8 0) 1 1 Tryz.underlying23 hi hz0 hz1 hz2 rfl (by decide) _ _ _ rfl (hown.alloc _) ⟨wr.heap.size, 0, none⟩ 1 1 [.int .u8 ((M : Int) / 2 ^ (8 * k) % 256)] rfl rfl ?c1 ?c2 ?c3 ?c4 ?c5 ?_)
      case c1 =>
        intro j u hj
        match j, hj with
        | 0, hj => simp at hj; subst hj; simp [Addr.add]
      case c2 => intro u hu; simp at hu; subst hu; rfl
      case c3 => unfold maxLen; omega
      case c4 => omega
      case c5 => have := hb.size; simp; omega
      intro v' w2 hown' hgrow _
      go_wp2_with fail
      refine ⟨⟨k + 1, by omega, by go_num, (Below.al hb _).grown hgrow (by have := hb.size; simp; omega) (fun j hj => (hown.lt j hj).1), ?_⟩, by simp [intOf]; omega⟩
      rw [BS.out, List.map_append]
      exact hown'
    · obtain rfl : k = 8 := by omega
      obtain ⟨a, cap, rfl, lc, cm, rb⟩ := ownRow hown rfl (bytesL_oct _ _) (bytesL_length _ _)
      clear hown
      generalize bytesL (M : Int) 8 = Z at *
      have tb := hT.next hb
      go_wp2_with fail
      refine (HD0.out _).mono ?_
      rintro e w1 ⟨rfl, hb1⟩
      have t2 := tb.next hb1
      have r2 := rb.next hb1
      have B2 := Below.andThen hb hb1
      clear hb1 tb rb hb
      go_wp2_with fail
      refine (text_any 27 a 8 cap Z _ r2 t2 lc cm).mono ?_
      rw [HX.out.1, HX.out.2]
      rintro e w3 ⟨rfl, hb3⟩
      have t3 := t2.next hb3
      have r3 := r2.next hb3
      have B3 := Below.andThen B2 hb3
      clear t2 r2 B2 hb3
      go_wp2_with fail
      refine (HV0.out _ t3).mono ?_
      rintro e w4 ⟨⟨a', len', cap', rfl, told⟩, hb4⟩
      have t4 := t3.next hb4
      have c1 := told.row.str' cap'
      have c2 := (r3.next hb4).str' cap
      have r4 := r3.next hb4
      have B4 := Below.andThen B3 hb4
      clear t3 r3 B3 hb4 told
      go_wp2_with fail
      clear c1 c2
      have t6 := t4
      have B6 := B4
      have r6 := r4
      clear t4 B4 r4
      refine (HV2.out _ t6).mono ?_
      rintro e w7 ⟨rfl, hb7⟩
      go_wp2_with fail
      refine (HV1.out _ (t6.next hb7)).mono ?_
      rintro e w8 ⟨rfl, hb8⟩
      have b8 := Below.andThen hb7 hb8
      have t8 := t6.next b8
      have r8 := r6.next b8
      have B8 := Below.andThen B6 b8
      clear hb7 hb8 b8 t6 B6 r6
      go_wp2_with fail
      go_loop [1, 22, 23] (fun n x i => ∃ (k q : Nat) (X : List UInt8), k ≤ 16 ∧ i = .int .i64 (k : Int) ∧ n = .int .u64 (q : Int) ∧ x = .string (str X) ∧ q = M / 16 ^ k ∧ X.length = k ∧ hexF true 0 X = some (M % 16 ^ k)) (fun _ _ i => 16 - (intOf i).toNat)
      case atStart => exact ⟨0, M, [], Nat.zero_le _, rfl, rfl, rfl, by simp, rfl, by simp [hexF, Nat.mod_one]⟩
      case round =>
        obtain ⟨k, q, X, hk, rfl, rfl, rfl, hq, hl, hf⟩ := hrel
        have hq1 : q < 18446744073709551616 := by rw [hq]; exact Nat.lt_of_le_of_lt (Nat.div_le_self _ _) (by omega)
        by_cases hlt : k < 16
        · have hlt' : (k : Int) < 16 := by omega
          have a15 := and15v (q : Int) (by omega) (by omega)
          have sl := slice16 ((q : Int) % 16) (by omega) (by omega)
          have w1 : IntKind.u64.wrap ((q : Int) % 16 + 1) = (q : Int) % 16 + 1 := u64_wrap_id _ (by omega) (by omega)
          have HC : Hid (hexF true 0 (hexG (q % 16) :: X) = some (M % 16 ^ (k + 1))) := hex_cons X M k (q % 16) hl hf (by rw [hq])
          have HQ : Hid (q / 16 = M / 16 ^ (k + 1)) := by show _ = _; rw [hq, Nat.div_div_eq_div_mul, ← Nat.pow_succ]
          obtain ⟨sx, HSX⟩ : ∃ s, Hid (str X = s) := ⟨_, rfl⟩
          obtain ⟨sd, HSD⟩ : ∃ s, Hid (str [hexG ((q : Int) % 16).toNat] = s) := ⟨_, rfl⟩
          have z1 : sx.size ≤ 16 := by rw [← HSX.out]; show X.toArray.size ≤ 16; rw [List.size_toArray]; omega
          have z2 : sd.size = 1 := by rw [← HSD.out]; rfl
          have ad := add_run sd sx (by omega)
          have HA : Hid (sd ++ sx = str (hexG (q % 16) :: X)) := by show _ = _; rw [← HSX.out, ← HSD.out, str_append, show ((q : Int) % 16).toNat = q % 16 from by omega]; rfl
          rw [HSD.out] at sl
          rw [HSX.out]
          clear hf hq z1 z2
          go_wp2_with fail
          exact ⟨⟨k + 1, q / 16, hexG (q % 16) :: X, by omega, by go_num, congrArg (Value.int .u64) (by omega), congrArg Value.string HA.out, HQ.out, by rw [List.length_cons, hl], HC.out⟩, by simp [intOf]; omega⟩
        · obtain rfl : k = 16 := by omega
          have hf' : hexF true 0 X = some M := by rw [hf, Nat.mod_eq_of_lt (by show M < 18446744073709551616; omega)]
          have HV := HVX.out X hl hf'
          have zx : (str X).size = 16 := by show X.toArray.size = 16; rw [List.size_toArray]; exact hl
          obtain ⟨sx, HSX⟩ : ∃ s, Hid (str X = s) := ⟨_, rfl⟩
          rw [HSX.out] at HV zx
          rw [HSX.out]
          have HV' : Hid (∀ (w : World), Tabs w → Calls Tryz.prog 6 #[.int .u8 27, .string (⟨#[48, 120]⟩ ++ sx)] w (ValueTo w (some Z))) := HV
          have ad := add_run ⟨#[48, 120]⟩ sx (by have : (⟨#[48, 120]⟩ : ByteArray).size = 2 := rfl; omega)
          clear hf hf' hq hl HV zx
          go_wp2_with fail
          refine (HV'.out _ t8).mono ?_
          rintro e w9 ⟨⟨a9, len9, cap9, rfl, told⟩, hb9⟩
          have c1 := told.row.str' cap9
          have c2 := (r8.next hb9).str' cap
          have t9 := t8.next hb9
          have B9 := Below.andThen B8 hb9
          clear told hb9 t8 B8 r8
          go_wp2_with fail
          refine (works_any _ t9).mono ?_
          rintro e w10 ⟨rfl, hb10⟩
          go_wp2_with fail
          go_ret
          exact ⟨rfl, Below.andThen B9 hb10⟩
#print axioms whole_27
end Go.Proofs.YteglncddckeegaaGreatDoor
