/-
  The walks of the document's Compare and Check.
-/
import Derived.Test.YtjgficnkllmilaaGreatDoorRef2
import Derived.Test.YtjgficnkllmilaaGreatDoorChkW
namespace Go.Proofs.YtjgficnkllmilaaGreatDoor
open Pl Go.RowKit

theorem cmp_keys (t : Int) (a b : List Int) (ha : placeB t a = true) (hb : placeB t b = true) : (keyN t a < keyN t b ↔ ordK t a < ordK t b) ∧ (keyN t b < keyN t a ↔ ordK t b < ordK t a) := by
  obtain ⟨_, _, _, _, _, _, la, _, _⟩ := place_facts t a ha
  obtain ⟨_, _, _, _, _, _, lb, _, _⟩ := place_facts t b hb
  have : a.length = b.length := by omega
  unfold keyN
  rw [this]
  omega

set_option maxHeartbeats 1000000 in
set_option maxRecDepth 100000 in
theorem refCompare_any (t : Int) (a b : Option Addr) (la ca lb cb : Nat) (za zb : List Int) (w : World) (ra : Row w a la za) (rb : Row w b lb zb)
    (hla : la ≤ ca) (hca : ca ≤ maxLen) (hlb : lb ≤ cb) (hcb : cb ≤ maxLen) :
    Calls Tryz.prog 18 #[.int .u8 t, .slice a la ca, .slice b lb cb] w fun e w' => e = .returned (.tuple #[.int .i64 (compR t za zb), .bool (compB t za zb)]) ∧ Below w.heap.size w w' := by
  by_cases pa : placeB t za = true
  rotate_left
  · have pa' : placeB t za = false := by simpa using pa
    have HR : Hid (compR t za zb = 0) := by show compR t za zb = 0; unfold compR; rw [if_neg (by simp [pa'])]
    have HB : Hid (compB t za zb = false) := by show compB t za zb = false; simp [compB, pa']
    have HA : Hid (placeB t za = false) := pa'
    clear pa pa'
    go_enter Tryz.func18, Tryz.ntmps18
    go_wp2_with fail
    refine (ordered_any _ _ _ _ za _ ra hla hca).mono ?_
    rw [HA.out]
    rintro e w ⟨rfl, rfl⟩
    go_wp2_with fail
    go_ret2
    exact ⟨ret_ib HR.out.symm HB.out.symm, Below.refl _ _⟩
  by_cases pb : placeB t zb = true
  rotate_left
  · have pb' : placeB t zb = false := by simpa using pb
    have HR : Hid (compR t za zb = 0) := by show compR t za zb = 0; unfold compR; rw [if_neg (by simp [pb'])]
    have HB : Hid (compB t za zb = false) := by show compB t za zb = false; simp [compB, pb']
    have HA : Hid (placeB t za = true) := pa
    have HA' : Hid (placeB t zb = false) := pb'
    clear pa pb pb'
    go_enter Tryz.func18, Tryz.ntmps18
    go_wp2_with fail
    refine (ordered_any _ _ _ _ za _ ra hla hca).mono ?_
    rw [HA.out]
    rintro e w ⟨rfl, rfl⟩
    go_wp2_with fail
    refine (ordered_any _ _ _ _ zb _ rb hlb hcb).mono ?_
    rw [HA'.out]
    rintro e w ⟨rfl, rfl⟩
    go_wp2_with fail
    go_ret2
    exact ⟨ret_ib HR.out.symm HB.out.symm, Below.refl _ _⟩
  have hk := cmp_keys t za zb pa pb
  have HR : Hid (compR t za zb = cmpN (keyN t za) (keyN t zb)) := by
    show compR t za zb = _
    unfold compR; rw [if_pos ⟨pa, pb⟩]
    exact (cmpN_congr hk.1 hk.2).symm
  have HB : Hid (compB t za zb = true) := by show compB t za zb = true; simp [compB, pa, pb]
  have HA : Hid (placeB t za = true) := pa
  have HA' : Hid (placeB t zb = true) := pb
  obtain ⟨x, HX⟩ : ∃ x, Hid (keyN t za = x) := ⟨_, rfl⟩
  obtain ⟨y, HY⟩ : ∃ y, Hid (keyN t zb = y) := ⟨_, rfl⟩
  rw [HR.out, HX.out, HY.out]
  clear pa pb hk HR
  by_cases c1 : x < y
  · go_enter Tryz.func18, Tryz.ntmps18
    go_wp2_with fail
    refine (ordered_any _ _ _ _ za _ ra hla hca).mono ?_
    rw [HA.out]
    rintro e w ⟨rfl, rfl⟩
    go_wp2_with fail
    refine (ordered_any _ _ _ _ zb _ rb hlb hcb).mono ?_
    rw [HA'.out]
    rintro e w ⟨rfl, rfl⟩
    go_wp2_with fail
    refine (key_any _ _ _ _ za _ ra HA.out hla hca).mono ?_
    rw [HX.out]
    rintro e w1 ⟨rfl, hb1⟩
    go_wp2_with fail
    refine (key_any _ _ _ _ zb _ (rb.next hb1) HA'.out hlb hcb).mono ?_
    rw [HY.out]
    rintro e w2 ⟨rfl, hb2⟩
    go_wp2_with fail
    go_ret2
    exact ⟨ret_ib (by unfold cmpN; rw [if_pos c1]) HB.out.symm, Below.andThen hb1 hb2⟩
  by_cases c2 : y < x
  · go_enter Tryz.func18, Tryz.ntmps18
    go_wp2_with fail
    refine (ordered_any _ _ _ _ za _ ra hla hca).mono ?_
    rw [HA.out]
    rintro e w ⟨rfl, rfl⟩
    go_wp2_with fail
    refine (ordered_any _ _ _ _ zb _ rb hlb hcb).mono ?_
    rw [HA'.out]
    rintro e w ⟨rfl, rfl⟩
    go_wp2_with fail
    refine (key_any _ _ _ _ za _ ra HA.out hla hca).mono ?_
    rw [HX.out]
    rintro e w1 ⟨rfl, hb1⟩
    go_wp2_with fail
    refine (key_any _ _ _ _ zb _ (rb.next hb1) HA'.out hlb hcb).mono ?_
    rw [HY.out]
    rintro e w2 ⟨rfl, hb2⟩
    go_wp2_with fail
    go_ret2
    exact ⟨ret_ib (by unfold cmpN; rw [if_neg (by omega), if_pos c2]) HB.out.symm, Below.andThen hb1 hb2⟩
  go_enter Tryz.func18, Tryz.ntmps18
  go_wp2_with fail
  refine (ordered_any _ _ _ _ za _ ra hla hca).mono ?_
  rw [HA.out]
  rintro e w ⟨rfl, rfl⟩
  go_wp2_with fail
  refine (ordered_any _ _ _ _ zb _ rb hlb hcb).mono ?_
  rw [HA'.out]
  rintro e w ⟨rfl, rfl⟩
  go_wp2_with fail
  refine (key_any _ _ _ _ za _ ra HA.out hla hca).mono ?_
  rw [HX.out]
  rintro e w1 ⟨rfl, hb1⟩
  go_wp2_with fail
  refine (key_any _ _ _ _ zb _ (rb.next hb1) HA'.out hlb hcb).mono ?_
  rw [HY.out]
  rintro e w2 ⟨rfl, hb2⟩
  go_wp2_with fail
  go_ret2
  exact ⟨ret_ib (by unfold cmpN; rw [if_neg (by omega), if_neg (by omega)]) HB.out.symm, Below.andThen hb1 hb2⟩
end Go.Proofs.YtjgficnkllmilaaGreatDoor
