/-
  The walk of the document's Check: why bytes are no value within bounds, any bytes of any type.
-/
import Derived.Test.YtajllkkbgpijiaaGreatDoorRef3
namespace Go.Proofs.YtajllkkbgpijiaaGreatDoor.Ty
open Pl Go.RowKit

theorem place_s (t : Int) (zs : List Int) (k : kindN t = 6 ∨ kindN t = 7) : placeB t zs = false := by
  rcases k with k | k <;> simp [placeB, k]

theorem comp_key (t : Int) (a b : List Int) (ha : placeB t a = true) (hb : placeB t b = true) : (0 < compR t a b ↔ keyN t b < keyN t a) ∧ (compR t a b < 0 ↔ keyN t a < keyN t b) := by
  have h := cmp_keys t a b ha hb
  unfold compR
  rw [if_pos ⟨ha, hb⟩]
  unfold cmpN
  rw [h.1, h.2]
  repeat' split
  all_goals omega

set_option maxHeartbeats 8000000 in
set_option maxRecDepth 100000 in
theorem refCheck_any (t : Int) (a lo hi : Option Addr) (la ca ll cl lh ch : Nat) (za zl zh : List Int) (w : World) (ra : Row w a la za) (rl : Row w lo ll zl) (rh : Row w hi lh zh)
    (hla : la ≤ ca) (hca : ca ≤ maxLen) (hll : ll ≤ cl) (hcl : cl ≤ maxLen) (hlh : lh ≤ ch) (hch : ch ≤ maxLen) :
    Calls Tryz.prog 53 #[.int .u8 t, .slice a la ca, .slice lo ll cl, .slice hi lh ch] w fun e w' => e = .returned (.int .u32 (chkN t za zl zh)) ∧ Below w.heap.size w w' := by
  have hle := let_is t
  by_cases c0 : cbN t za = 0
  rotate_left
  · have HC : Hid (chkN t za zl zh = cbN t za) := by show chkN t za zl zh = _; unfold chkN; rw [if_pos c0]
    have bc : (cbN t za != 0) = true := by simp [c0]
    clear c0 hle
    go_enter Tryz.func53, Tryz.ntmps53
    go_wp2_with fail
    refine (plain_any _ _ _ _ za _ ra hla hca).mono ?_
    rintro e w ⟨rfl, rfl⟩
    go_wp2_with fail
    go_ret
    exact ⟨ret_int HC.out.symm, Below.refl _ _⟩
  have bc : Hid (cbN t za = 0) := c0
  have HC : Hid (chkN t za zl zh = resN (placeB t zh) (placeB t zl) (placeB t za) (compR t za zh) (compR t za zl)) := by show chkN t za zl zh = _; unfold chkN; rw [if_neg (by simp [c0])]
  by_cases k : kindN t = 6 ∨ kindN t = 7
  · have bl : (letN t == 115) = true := by simp [hle.2.2.2.2.2.1.2 k]
    have HR : Hid (chkN t za zl zh = 0) := by
      show chkN t za zl zh = 0
      rw [HC.out, place_s t zh k, place_s t zl k, place_s t za k, compR_none t za zh (place_s t zh k), compR_none t za zl (place_s t zl k)]
      rfl
    clear c0 hle k HC
    go_enter Tryz.func53, Tryz.ntmps53
    go_wp2_with fail
    refine (plain_any _ _ _ _ za _ ra hla hca).mono ?_
    rw [bc.out]
    rintro e w ⟨rfl, rfl⟩
    go_wp2_with fail
    refine (refKind_any _ _).mono ?_
    rintro e w ⟨rfl, rfl⟩
    go_wp2_with fail
    go_ret
    exact ⟨ret_int HR.out.symm, Below.refl _ _⟩
  have bl : (letN t == 115) = false := by simp; exact fun h => k (hle.2.2.2.2.2.1.1 h)
  have hk0 := cb_kind t za c0
  have hkb := kind_bd t
  have hsz := (kind_size t).2.2.2.2.2.2 (by omega) (by omega)
  have hl := cb_len t za c0 hsz
  have hsb := size_bd t
  have h8 : la ≤ 8 := by rw [ra.size] at hl; omega
  have hpa : placeB t za = !nanB t za := by
    have k6 : kindN t ≠ 6 := fun h => k (.inl h)
    have k7 : kindN t ≠ 7 := fun h => k (.inr h)
    simp [placeB, c0, k6, k7]
  have ZH : Hid (placeB t zh = true → (0 : Int) < (lh : Int)) := fun h => by
    have := (place_facts t zh h).2.2.2.2.2.2.2.1
    rw [rh.size] at this; omega
  have ZL : Hid (placeB t zl = true → (0 : Int) < (ll : Int)) := fun h => by
    have := (place_facts t zl h).2.2.2.2.2.2.2.1
    rw [rl.size] at this; omega
  have KH : Hid (nanB t za = false → placeB t zh = true → (0 < compR t za zh ↔ keyN t zh < keyN t za)) := fun h1 h2 => (comp_key t za zh (by rw [hpa, h1]; rfl) h2).1
  have KL : Hid (nanB t za = false → placeB t zl = true → (compR t za zl < 0 ↔ keyN t za < keyN t zl)) := fun h1 h2 => (comp_key t za zl (by rw [hpa, h1]; rfl) h2).2
  have NH : Hid (placeB t zh = false → compR t za zh = 0) := fun h => compR_none t za zh h
  have NL : Hid (placeB t zl = false → compR t za zl = 0) := fun h => compR_none t za zl h
  have HA : Hid (nanB t za = false → placeB t za = true) := fun h => by rw [hpa, h]; rfl
  obtain ⟨ph, HPH⟩ : ∃ ph, Hid (placeB t zh = ph) := ⟨_, rfl⟩
  obtain ⟨pl, HPL⟩ : ∃ pl, Hid (placeB t zl = pl) := ⟨_, rfl⟩
  obtain ⟨nb, HNB⟩ : ∃ nb, Hid (nanB t za = nb) := ⟨_, rfl⟩
  obtain ⟨xh, HXH⟩ : ∃ xh, Hid (compR t za zh = xh) := ⟨_, rfl⟩
  obtain ⟨xl, HXL⟩ : ∃ xl, Hid (compR t za zl = xl) := ⟨_, rfl⟩
  obtain ⟨x, HX⟩ : ∃ x, Hid (keyN t za = x) := ⟨_, rfl⟩
  obtain ⟨yh, HYH⟩ : ∃ x, Hid (keyN t zh = x) := ⟨_, rfl⟩
  obtain ⟨yl, HYL⟩ : ∃ x, Hid (keyN t zl = x) := ⟨_, rfl⟩
  have HR : Hid (chkN t za zl zh = resN ph pl (!nb) xh xl) := by show chkN t za zl zh = _; rw [HC.out, HPH.out, HPL.out, hpa, HNB.out, HXH.out, HXL.out]
  rw [HPH.out] at ZH
  rw [HPL.out] at ZL
  rw [HPH.out, HNB.out, HXH.out, HX.out, HYH.out] at KH
  rw [HPL.out, HNB.out, HXL.out, HX.out, HYL.out] at KL
  rw [HPH.out, HXH.out] at NH
  rw [HPL.out, HXL.out] at NL
  rw [HNB.out] at HA
  clear HC c0 hle k hk0 hkb hsz hl hsb hpa HXH HXL
  by_cases h1 : (0 : Int) < (lh : Int)
  all_goals by_cases h2 : (0 : Int) < (ll : Int)
  · go_enter Tryz.func53, Tryz.ntmps53
    go_wp2_with fail
    refine (plain_any _ _ _ _ za _ ra hla hca).mono ?_
    rw [bc.out]
    rintro e w ⟨rfl, rfl⟩
    go_wp2_with fail
    refine (refKind_any _ _).mono ?_
    rintro e w ⟨rfl, rfl⟩
    go_wp2_with fail
    refine (ordered_any _ _ _ _ zh _ rh hlh hch).mono ?_
    rw [HPH.out]
    rintro e w ⟨rfl, rfl⟩
    go_wp2_with fail
    refine (ordered_any _ _ _ _ zl _ rl hll hcl).mono ?_
    rw [HPL.out]
    rintro e w ⟨rfl, rfl⟩
    cases ph
    · cases pl
      · have e1 := NH.out rfl
        have e2 := NL.out rfl
        cases nb
        all_goals
          go_wp2_with fail
          go_ret
          exact ⟨ret_int (by rw [HR.out]; exact (res_0 _ _ _ _ _ rfl (by omega) (by omega)).symm), Below.refl _ _⟩
      · cases nb
        · have HA1 : Hid (placeB t za = true) := HA.out rfl
          have e1 := NH.out rfl
          have e2 := KL.out rfl rfl
          by_cases c2 : x < yl
          · go_wp2_with fail
            refine (nan_any _ _ _ _ za _ ra h8).mono ?_
            rw [HNB.out]
            rintro e w ⟨rfl, rfl⟩
            go_wp2_with fail
            refine (key_any _ _ _ _ za _ ra HA1.out hla hca).mono ?_
            rw [HX.out]
            rintro e w1 ⟨rfl, hb1⟩
            have B1 : Below w.heap.size w w1 := hb1
            go_wp2_with fail
            refine (key_any _ _ _ _ zl _ (rl.next B1) HPL.out hll hcl).mono ?_
            rw [HYL.out]
            rintro e w2 ⟨rfl, hb2⟩
            have B2 : Below w.heap.size w w2 := Below.andThen B1 hb2
            go_wp2_with fail
            go_ret
            exact ⟨ret_int (by rw [HR.out]; exact (res_l _ _ _ _ _ rfl (by omega) (by omega)).symm), B2⟩
          go_wp2_with fail
          refine (nan_any _ _ _ _ za _ ra h8).mono ?_
          rw [HNB.out]
          rintro e w ⟨rfl, rfl⟩
          go_wp2_with fail
          refine (key_any _ _ _ _ za _ ra HA1.out hla hca).mono ?_
          rw [HX.out]
          rintro e w1 ⟨rfl, hb1⟩
          have B1 : Below w.heap.size w w1 := hb1
          go_wp2_with fail
          refine (key_any _ _ _ _ zl _ (rl.next B1) HPL.out hll hcl).mono ?_
          rw [HYL.out]
          rintro e w2 ⟨rfl, hb2⟩
          have B2 : Below w.heap.size w w2 := Below.andThen B1 hb2
          go_wp2_with fail
          go_ret
          exact ⟨ret_int (by rw [HR.out]; exact (res_0 _ _ _ _ _ rfl (by omega) (by omega)).symm), B2⟩
        · go_wp2_with fail
          refine (nan_any _ _ _ _ za _ ra h8).mono ?_
          rw [HNB.out]
          rintro e w ⟨rfl, rfl⟩
          go_wp2_with fail
          go_ret
          exact ⟨ret_int (by rw [HR.out]; exact (res_v _ _ _ _ _ rfl).symm), Below.refl _ _⟩
    · cases pl
      · cases nb
        · have HA1 : Hid (placeB t za = true) := HA.out rfl
          have e1 := KH.out rfl rfl
          have e2 := NL.out rfl
          by_cases c1 : yh < x
          · go_wp2_with fail
            refine (nan_any _ _ _ _ za _ ra h8).mono ?_
            rw [HNB.out]
            rintro e w ⟨rfl, rfl⟩
            go_wp2_with fail
            refine (key_any _ _ _ _ za _ ra HA1.out hla hca).mono ?_
            rw [HX.out]
            rintro e w1 ⟨rfl, hb1⟩
            have B1 : Below w.heap.size w w1 := hb1
            go_wp2_with fail
            refine (key_any _ _ _ _ zh _ (rh.next B1) HPH.out hlh hch).mono ?_
            rw [HYH.out]
            rintro e w2 ⟨rfl, hb2⟩
            have B2 : Below w.heap.size w w2 := Below.andThen B1 hb2
            go_wp2_with fail
            go_ret
            exact ⟨ret_int (by rw [HR.out]; exact (res_h _ _ _ _ _ rfl (by omega)).symm), B2⟩
          go_wp2_with fail
          refine (nan_any _ _ _ _ za _ ra h8).mono ?_
          rw [HNB.out]
          rintro e w ⟨rfl, rfl⟩
          go_wp2_with fail
          refine (key_any _ _ _ _ za _ ra HA1.out hla hca).mono ?_
          rw [HX.out]
          rintro e w1 ⟨rfl, hb1⟩
          have B1 : Below w.heap.size w w1 := hb1
          go_wp2_with fail
          refine (key_any _ _ _ _ zh _ (rh.next B1) HPH.out hlh hch).mono ?_
          rw [HYH.out]
          rintro e w2 ⟨rfl, hb2⟩
          have B2 : Below w.heap.size w w2 := Below.andThen B1 hb2
          go_wp2_with fail
          go_ret
          exact ⟨ret_int (by rw [HR.out]; exact (res_0 _ _ _ _ _ rfl (by omega) (by omega)).symm), B2⟩
        · go_wp2_with fail
          refine (nan_any _ _ _ _ za _ ra h8).mono ?_
          rw [HNB.out]
          rintro e w ⟨rfl, rfl⟩
          go_wp2_with fail
          go_ret
          exact ⟨ret_int (by rw [HR.out]; exact (res_v _ _ _ _ _ rfl).symm), Below.refl _ _⟩
      · cases nb
        · have HA1 : Hid (placeB t za = true) := HA.out rfl
          have e1 := KH.out rfl rfl
          have e2 := KL.out rfl rfl
          by_cases c1 : yh < x
          · go_wp2_with fail
            refine (nan_any _ _ _ _ za _ ra h8).mono ?_
            rw [HNB.out]
            rintro e w ⟨rfl, rfl⟩
            go_wp2_with fail
            refine (key_any _ _ _ _ za _ ra HA1.out hla hca).mono ?_
            rw [HX.out]
            rintro e w1 ⟨rfl, hb1⟩
            have B1 : Below w.heap.size w w1 := hb1
            go_wp2_with fail
            refine (key_any _ _ _ _ zh _ (rh.next B1) HPH.out hlh hch).mono ?_
            rw [HYH.out]
            rintro e w2 ⟨rfl, hb2⟩
            have B2 : Below w.heap.size w w2 := Below.andThen B1 hb2
            go_wp2_with fail
            go_ret
            exact ⟨ret_int (by rw [HR.out]; exact (res_h _ _ _ _ _ rfl (by omega)).symm), B2⟩
          by_cases c2 : x < yl
          · go_wp2_with fail
            refine (nan_any _ _ _ _ za _ ra h8).mono ?_
            rw [HNB.out]
            rintro e w ⟨rfl, rfl⟩
            go_wp2_with fail
            refine (key_any _ _ _ _ za _ ra HA1.out hla hca).mono ?_
            rw [HX.out]
            rintro e w1 ⟨rfl, hb1⟩
            have B1 : Below w.heap.size w w1 := hb1
            go_wp2_with fail
            refine (key_any _ _ _ _ zh _ (rh.next B1) HPH.out hlh hch).mono ?_
            rw [HYH.out]
            rintro e w2 ⟨rfl, hb2⟩
            have B2 : Below w.heap.size w w2 := Below.andThen B1 hb2
            go_wp2_with fail
            refine (key_any _ _ _ _ za _ (ra.next B2) HA1.out hla hca).mono ?_
            rw [HX.out]
            rintro e w3 ⟨rfl, hb3⟩
            have B3 : Below w.heap.size w w3 := (Below.andThen B2 hb3)
            go_wp2_with fail
            refine (key_any _ _ _ _ zl _ (rl.next B3) HPL.out hll hcl).mono ?_
            rw [HYL.out]
            rintro e w4 ⟨rfl, hb4⟩
            have B4 : Below w.heap.size w w4 := Below.andThen B3 hb4
            go_wp2_with fail
            go_ret
            exact ⟨ret_int (by rw [HR.out]; exact (res_l _ _ _ _ _ rfl (by omega) (by omega)).symm), B4⟩
          go_wp2_with fail
          refine (nan_any _ _ _ _ za _ ra h8).mono ?_
          rw [HNB.out]
          rintro e w ⟨rfl, rfl⟩
          go_wp2_with fail
          refine (key_any _ _ _ _ za _ ra HA1.out hla hca).mono ?_
          rw [HX.out]
          rintro e w1 ⟨rfl, hb1⟩
          have B1 : Below w.heap.size w w1 := hb1
          go_wp2_with fail
          refine (key_any _ _ _ _ zh _ (rh.next B1) HPH.out hlh hch).mono ?_
          rw [HYH.out]
          rintro e w2 ⟨rfl, hb2⟩
          have B2 : Below w.heap.size w w2 := Below.andThen B1 hb2
          go_wp2_with fail
          refine (key_any _ _ _ _ za _ (ra.next B2) HA1.out hla hca).mono ?_
          rw [HX.out]
          rintro e w3 ⟨rfl, hb3⟩
          have B3 : Below w.heap.size w w3 := (Below.andThen B2 hb3)
          go_wp2_with fail
          refine (key_any _ _ _ _ zl _ (rl.next B3) HPL.out hll hcl).mono ?_
          rw [HYL.out]
          rintro e w4 ⟨rfl, hb4⟩
          have B4 : Below w.heap.size w w4 := Below.andThen B3 hb4
          go_wp2_with fail
          go_ret
          exact ⟨ret_int (by rw [HR.out]; exact (res_0 _ _ _ _ _ rfl (by omega) (by omega)).symm), B4⟩
        · go_wp2_with fail
          refine (nan_any _ _ _ _ za _ ra h8).mono ?_
          rw [HNB.out]
          rintro e w ⟨rfl, rfl⟩
          go_wp2_with fail
          go_ret
          exact ⟨ret_int (by rw [HR.out]; exact (res_v _ _ _ _ _ rfl).symm), Below.refl _ _⟩
  · go_enter Tryz.func53, Tryz.ntmps53
    go_wp2_with fail
    refine (plain_any _ _ _ _ za _ ra hla hca).mono ?_
    rw [bc.out]
    rintro e w ⟨rfl, rfl⟩
    go_wp2_with fail
    refine (refKind_any _ _).mono ?_
    rintro e w ⟨rfl, rfl⟩
    go_wp2_with fail
    refine (ordered_any _ _ _ _ zh _ rh hlh hch).mono ?_
    rw [HPH.out]
    rintro e w ⟨rfl, rfl⟩
    cases ph
    · cases pl
      · have e1 := NH.out rfl
        have e2 := NL.out rfl
        cases nb
        all_goals
          go_wp2_with fail
          go_ret
          exact ⟨ret_int (by rw [HR.out]; exact (res_0 _ _ _ _ _ rfl (by omega) (by omega)).symm), Below.refl _ _⟩
      · have h := ZL.out rfl
        omega
    · cases pl
      · cases nb
        · have HA1 : Hid (placeB t za = true) := HA.out rfl
          have e1 := KH.out rfl rfl
          have e2 := NL.out rfl
          by_cases c1 : yh < x
          · go_wp2_with fail
            refine (nan_any _ _ _ _ za _ ra h8).mono ?_
            rw [HNB.out]
            rintro e w ⟨rfl, rfl⟩
            go_wp2_with fail
            refine (key_any _ _ _ _ za _ ra HA1.out hla hca).mono ?_
            rw [HX.out]
            rintro e w1 ⟨rfl, hb1⟩
            have B1 : Below w.heap.size w w1 := hb1
            go_wp2_with fail
            refine (key_any _ _ _ _ zh _ (rh.next B1) HPH.out hlh hch).mono ?_
            rw [HYH.out]
            rintro e w2 ⟨rfl, hb2⟩
            have B2 : Below w.heap.size w w2 := Below.andThen B1 hb2
            go_wp2_with fail
            go_ret
            exact ⟨ret_int (by rw [HR.out]; exact (res_h _ _ _ _ _ rfl (by omega)).symm), B2⟩
          go_wp2_with fail
          refine (nan_any _ _ _ _ za _ ra h8).mono ?_
          rw [HNB.out]
          rintro e w ⟨rfl, rfl⟩
          go_wp2_with fail
          refine (key_any _ _ _ _ za _ ra HA1.out hla hca).mono ?_
          rw [HX.out]
          rintro e w1 ⟨rfl, hb1⟩
          have B1 : Below w.heap.size w w1 := hb1
          go_wp2_with fail
          refine (key_any _ _ _ _ zh _ (rh.next B1) HPH.out hlh hch).mono ?_
          rw [HYH.out]
          rintro e w2 ⟨rfl, hb2⟩
          have B2 : Below w.heap.size w w2 := Below.andThen B1 hb2
          go_wp2_with fail
          go_ret
          exact ⟨ret_int (by rw [HR.out]; exact (res_0 _ _ _ _ _ rfl (by omega) (by omega)).symm), B2⟩
        · go_wp2_with fail
          refine (nan_any _ _ _ _ za _ ra h8).mono ?_
          rw [HNB.out]
          rintro e w ⟨rfl, rfl⟩
          go_wp2_with fail
          go_ret
          exact ⟨ret_int (by rw [HR.out]; exact (res_v _ _ _ _ _ rfl).symm), Below.refl _ _⟩
      · have h := ZL.out rfl
        omega
  · go_enter Tryz.func53, Tryz.ntmps53
    go_wp2_with fail
    refine (plain_any _ _ _ _ za _ ra hla hca).mono ?_
    rw [bc.out]
    rintro e w ⟨rfl, rfl⟩
    go_wp2_with fail
    refine (refKind_any _ _).mono ?_
    rintro e w ⟨rfl, rfl⟩
    go_wp2_with fail
    refine (ordered_any _ _ _ _ zl _ rl hll hcl).mono ?_
    rw [HPL.out]
    rintro e w ⟨rfl, rfl⟩
    cases ph
    · cases pl
      · have e1 := NH.out rfl
        have e2 := NL.out rfl
        cases nb
        all_goals
          go_wp2_with fail
          go_ret
          exact ⟨ret_int (by rw [HR.out]; exact (res_0 _ _ _ _ _ rfl (by omega) (by omega)).symm), Below.refl _ _⟩
      · cases nb
        · have HA1 : Hid (placeB t za = true) := HA.out rfl
          have e1 := NH.out rfl
          have e2 := KL.out rfl rfl
          by_cases c2 : x < yl
          · go_wp2_with fail
            refine (nan_any _ _ _ _ za _ ra h8).mono ?_
            rw [HNB.out]
            rintro e w ⟨rfl, rfl⟩
            go_wp2_with fail
            refine (key_any _ _ _ _ za _ ra HA1.out hla hca).mono ?_
            rw [HX.out]
            rintro e w1 ⟨rfl, hb1⟩
            have B1 : Below w.heap.size w w1 := hb1
            go_wp2_with fail
            refine (key_any _ _ _ _ zl _ (rl.next B1) HPL.out hll hcl).mono ?_
            rw [HYL.out]
            rintro e w2 ⟨rfl, hb2⟩
            have B2 : Below w.heap.size w w2 := Below.andThen B1 hb2
            go_wp2_with fail
            go_ret
            exact ⟨ret_int (by rw [HR.out]; exact (res_l _ _ _ _ _ rfl (by omega) (by omega)).symm), B2⟩
          go_wp2_with fail
          refine (nan_any _ _ _ _ za _ ra h8).mono ?_
          rw [HNB.out]
          rintro e w ⟨rfl, rfl⟩
          go_wp2_with fail
          refine (key_any _ _ _ _ za _ ra HA1.out hla hca).mono ?_
          rw [HX.out]
          rintro e w1 ⟨rfl, hb1⟩
          have B1 : Below w.heap.size w w1 := hb1
          go_wp2_with fail
          refine (key_any _ _ _ _ zl _ (rl.next B1) HPL.out hll hcl).mono ?_
          rw [HYL.out]
          rintro e w2 ⟨rfl, hb2⟩
          have B2 : Below w.heap.size w w2 := Below.andThen B1 hb2
          go_wp2_with fail
          go_ret
          exact ⟨ret_int (by rw [HR.out]; exact (res_0 _ _ _ _ _ rfl (by omega) (by omega)).symm), B2⟩
        · go_wp2_with fail
          refine (nan_any _ _ _ _ za _ ra h8).mono ?_
          rw [HNB.out]
          rintro e w ⟨rfl, rfl⟩
          go_wp2_with fail
          go_ret
          exact ⟨ret_int (by rw [HR.out]; exact (res_v _ _ _ _ _ rfl).symm), Below.refl _ _⟩
    · have h := ZH.out rfl
      omega
  · go_enter Tryz.func53, Tryz.ntmps53
    go_wp2_with fail
    refine (plain_any _ _ _ _ za _ ra hla hca).mono ?_
    rw [bc.out]
    rintro e w ⟨rfl, rfl⟩
    go_wp2_with fail
    refine (refKind_any _ _).mono ?_
    rintro e w ⟨rfl, rfl⟩
    cases ph
    · cases pl
      · have e1 := NH.out rfl
        have e2 := NL.out rfl
        cases nb
        all_goals
          go_wp2_with fail
          go_ret
          exact ⟨ret_int (by rw [HR.out]; exact (res_0 _ _ _ _ _ rfl (by omega) (by omega)).symm), Below.refl _ _⟩
      · have h := ZL.out rfl
        omega
    · have h := ZH.out rfl
      omega
#print axioms refCheck_any
end Go.Proofs.YtajllkkbgpijiaaGreatDoor.Ty
