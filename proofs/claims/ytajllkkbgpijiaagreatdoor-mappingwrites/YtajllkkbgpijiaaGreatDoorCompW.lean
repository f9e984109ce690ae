/-
  The walk of Compare: the order of two values, any bytes of any type.
-/
import Derived.Test.YtajllkkbgpijiaaGreatDoorComp
namespace Go.Proofs.YtajllkkbgpijiaaGreatDoor.Ty
open Pl Go.RowKit

theorem place_facts (t : Int) (zs : List Int) (h : placeB t zs = true) : cbN t zs = 0 ∧ kindN t ≠ 6 ∧ kindN t ≠ 7 ∧ nanB t zs = false ∧ 1 ≤ kindN t ∧ kindN t ≤ 5 ∧ (zs.length : Int) = sizeN t ∧ 1 ≤ zs.length ∧ zs.length ≤ 8 := by
  simp [placeB] at h
  obtain ⟨⟨⟨h1, h2⟩, h3⟩, h4⟩ := h
  have hk := kind_bd t
  have hs := kind_size t
  have hb := size_bd t
  have k0 : kindN t ≠ 0 := fun h0 => by unfold cbN at h1; rw [if_pos h0] at h1; omega
  have hl := cb_len t zs h1 (hs.2.2.2.2.2.2 (by omega) (by omega))
  have := hs.2.2.2.2.2.2 (by omega) (by omega)
  exact ⟨h1, h2, h3, h4, by omega, by omega, hl, by omega, by omega⟩

set_option maxHeartbeats 4000000 in
set_option maxRecDepth 100000 in
theorem compare_any (t : Int) (a b : Option Addr) (la ca lb cb : Nat) (za zb : List Int) (w : World) (ra : Row w a la za) (rb : Row w b lb zb) (hT : Tab64 w)
    (hla : la ≤ ca) (hca : ca ≤ maxLen) (hlb : lb ≤ cb) (hcb : cb ≤ maxLen) :
    Calls Tryz.prog 77 #[.int .u8 t, .slice a la ca, .slice b lb cb] w fun e w' => e = .returned (.tuple #[.int .i64 (compR t za zb), .bool (compB t za zb)]) ∧ Below w.heap.size w w' := by
  have old := hT.old
  by_cases pa : placeB t za = true
  rotate_left
  · have pa' : placeB t za = false := by simpa using pa
    have HR : Hid (compR t za zb = 0) := by show compR t za zb = 0; unfold compR; rw [if_neg (by simp [pa'])]
    have HB : Hid (compB t za zb = false) := by show compB t za zb = false; simp [compB, pa']
    have HA : Hid (placeB t za = false) := pa'
    clear pa pa'
    go_enter Tryz.func77, Tryz.ntmps77
    go_wp2_with fail
    refine (hasPlace_any _ _ _ _ za _ ra hT hla hca).mono ?_
    rw [HA.out]
    rintro e w1 ⟨rfl, hb1⟩
    go_wp2_with fail
    go_ret2
    exact ⟨ret_ib HR.out.symm HB.out.symm, hb1⟩
  by_cases pb : placeB t zb = true
  rotate_left
  · have pb' : placeB t zb = false := by simpa using pb
    have HR : Hid (compR t za zb = 0) := by show compR t za zb = 0; unfold compR; rw [if_neg (by simp [pb'])]
    have HB : Hid (compB t za zb = false) := by show compB t za zb = false; simp [compB, pb']
    have HA : Hid (placeB t za = true) := pa
    have HA' : Hid (placeB t zb = false) := pb'
    clear pa pb pb'
    go_enter Tryz.func77, Tryz.ntmps77
    go_wp2_with fail
    refine (hasPlace_any _ _ _ _ za _ ra hT hla hca).mono ?_
    rw [HA.out]
    rintro e w1 ⟨rfl, hb1⟩
    go_wp2_with fail
    refine (hasPlace_any _ _ _ _ zb _ (rb.next hb1) (hT.below hb1 old) hlb hcb).mono ?_
    rw [HA'.out]
    rintro e w2 ⟨rfl, hb2⟩
    go_wp2_with fail
    go_ret2
    exact ⟨ret_ib HR.out.symm HB.out.symm, Below.andThen hb1 hb2⟩
  obtain ⟨_, _, _, na, k1, k5, sa, a1, a8⟩ := place_facts t za pa
  obtain ⟨_, _, _, nb, _, _, sb, b1, b8⟩ := place_facts t zb pb
  have HR : Hid (compR t za zb = cmpN (ordK t za) (ordK t zb)) := by show compR t za zb = _; unfold compR; rw [if_pos ⟨pa, pb⟩]
  have HB : Hid (compB t za zb = true) := by show compB t za zb = true; simp [compB, pa, pb]
  have HA : Hid (placeB t za = true) := pa
  have HA' : Hid (placeB t zb = true) := pb
  clear pa pb
  have ha := ra.size
  have hb := rb.size
  by_cases k2 : kindN t = 2
  · have b2 : (kindN t == 2) = true := by simp [k2]
    have HO : Hid (ordK t za = sgN la (num za)) := by show ordK t za = _; unfold ordK; rw [if_pos k2, ha]
    have HO' : Hid (ordK t zb = sgN lb (num zb)) := by show ordK t zb = _; unfold ordK; rw [if_pos k2, hb]
    clear k1 k5 k2 sa sb na nb
    rw [ha] at a1 a8; rw [hb] at b1 b8
    clear ha hb
    go_enter Tryz.func77, Tryz.ntmps77
    go_wp2_with fail
    refine (hasPlace_any _ _ _ _ za _ ra hT hla hca).mono ?_
    rw [HA.out]
    rintro e w1 ⟨rfl, hb1⟩
    go_wp2_with fail
    refine (hasPlace_any _ _ _ _ zb _ (rb.next hb1) (hT.below hb1 old) hlb hcb).mono ?_
    rw [HA'.out]
    rintro e w2 ⟨rfl, hb2⟩
    go_wp2_with fail
    refine (kindOf_any _ _).mono ?_
    rintro e w' ⟨rfl, rfl⟩
    go_wp2_with fail
    refine (signedNumber_any _ _ _ za _ ((ra.next hb1).next hb2) a1 a8).mono ?_
    rintro e w' ⟨rfl, rfl⟩
    go_wp2_with fail
    refine (signedNumber_any _ _ _ zb _ ((rb.next hb1).next hb2) b1 b8).mono ?_
    rintro e w' ⟨rfl, rfl⟩
    go_wp2_with fail
    refine (cmpI_any _ _ _).mono ?_
    rintro e w' ⟨rfl, rfl⟩
    go_wp2_with fail
    go_ret2
    exact ⟨ret_ib (by rw [HR.out, HO.out, HO'.out]) HB.out.symm, Below.andThen hb1 hb2⟩
  have b2 : (kindN t == 2) = false := by simp [k2]
  by_cases k4 : kindN t = 4
  · have b4 : (kindN t == 4) = true := by simp [k4]
    have hs := float_types t k4
    have HK : Hid (∀ X Y, FWord za X → FWord zb Y → cmpF X Y = cmpN (ordK t za) (ordK t zb)) := fun X Y hX hY => by
      unfold ordK; rw [if_neg k2, if_pos k4, if_neg k2, if_pos k4]
      exact word_key t za zb X Y ra.oct rb.oct k4 sa sb na nb hX hY
    have l1 : la = 4 ∨ la = 8 := by omega
    have l2 : lb = 4 ∨ lb = 8 := by omega
    clear k1 k5 k2 sa sb na nb k4 hs ha hb
    go_enter Tryz.func77, Tryz.ntmps77
    go_wp2_with fail
    refine (hasPlace_any _ _ _ _ za _ ra hT hla hca).mono ?_
    rw [HA.out]
    rintro e w1 ⟨rfl, hb1⟩
    go_wp2_with fail
    refine (hasPlace_any _ _ _ _ zb _ (rb.next hb1) (hT.below hb1 old) hlb hcb).mono ?_
    rw [HA'.out]
    rintro e w2 ⟨rfl, hb2⟩
    have t2 : Tab64 w2 := hT.below (Below.andThen hb1 hb2) old
    go_wp2_with fail
    refine (kindOf_any _ _).mono ?_
    rintro e w' ⟨rfl, rfl⟩
    go_wp2_with fail
    refine (floatOf_any _ _ _ za _ ((ra.next hb1).next hb2) t2 l1).mono ?_
    rintro e w3 ⟨X, rfl, hX, hb3⟩
    go_wp2_with fail
    refine (floatOf_any _ _ _ zb _ (((rb.next hb1).next hb2).next hb3) (t2.below hb3 t2.old) l2).mono ?_
    rintro e w4 ⟨Y, rfl, hY, hb4⟩
    go_wp2_with fail
    refine (compareFloats_any _ _ _).mono ?_
    rintro e w' ⟨rfl, rfl⟩
    go_wp2_with fail
    go_ret2
    exact ⟨ret_ib (by rw [HR.out]; exact HK.out X Y hX hY) HB.out.symm, Below.andThen (Below.andThen (Below.andThen hb1 hb2) hb3) hb4⟩
  · have b4 : (kindN t == 4) = false := by simp [k4]
    have HO : Hid (ordK t za = num za) := by show ordK t za = _; unfold ordK; rw [if_neg k2, if_neg k4]
    have HO' : Hid (ordK t zb = num zb) := by show ordK t zb = _; unfold ordK; rw [if_neg k2, if_neg k4]
    rw [ha] at a8; rw [hb] at b8
    clear k1 k5 k2 sa sb na nb k4 ha hb
    go_enter Tryz.func77, Tryz.ntmps77
    go_wp2_with fail
    refine (hasPlace_any _ _ _ _ za _ ra hT hla hca).mono ?_
    rw [HA.out]
    rintro e w1 ⟨rfl, hb1⟩
    go_wp2_with fail
    refine (hasPlace_any _ _ _ _ zb _ (rb.next hb1) (hT.below hb1 old) hlb hcb).mono ?_
    rw [HA'.out]
    rintro e w2 ⟨rfl, hb2⟩
    go_wp2_with fail
    refine (kindOf_any _ _).mono ?_
    rintro e w' ⟨rfl, rfl⟩
    go_wp2_with fail
    refine (number_any _ _ _ za _ ((ra.next hb1).next hb2) a8).mono ?_
    rintro e w' ⟨rfl, rfl⟩
    go_wp2_with fail
    refine (number_any _ _ _ zb _ ((rb.next hb1).next hb2) b8).mono ?_
    rintro e w' ⟨rfl, rfl⟩
    go_wp2_with fail
    refine (cmpU_any _ _ _).mono ?_
    rintro e w' ⟨rfl, rfl⟩
    go_wp2_with fail
    go_ret2
    exact ⟨ret_ib (by rw [HR.out, HO.out, HO'.out]) HB.out.symm, Below.andThen hb1 hb2⟩
end Go.Proofs.YtajllkkbgpijiaaGreatDoor.Ty
