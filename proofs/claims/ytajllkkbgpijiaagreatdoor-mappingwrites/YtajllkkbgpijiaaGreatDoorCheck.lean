/-
  The walks of checkBytes and of the document's plain: whether bytes are a value of a type.
-/
import Derived.Test.YtajllkkbgpijiaaGreatDoorNumW
namespace Go.Proofs.YtajllkkbgpijiaaGreatDoor.Ty
open Pl Go.RowKit

set_option maxHeartbeats 2000000 in
theorem checkBytes_any (t : Int) (a : Option Addr) (len cap : Nat) (zs : List Int) (w : World) (hr : Row w a len zs) (hlc : len ≤ cap) (hcm : cap ≤ maxLen) :
    Calls Tryz.prog 74 #[.int .u8 t, .slice a len cap] w fun e w' => e = .returned (.int .u32 (cbN t zs)) ∧ w' = w := by
  have hs := hr.size
  have ⟨s0, s1, s5, _⟩ := kind_size t
  have hsb := size_bd t
  unfold maxLen at hcm
  by_cases k0 : kindN t = 0
  · have b0 : (kindN t == 0) = true := by simp [k0]
    have H : Hid (cbN t zs = 134217728) := by show cbN t zs = _; unfold cbN; rw [if_pos k0]
    clear k0 s0 s1 s5 hs hr
    go_enter Tryz.func74, Tryz.ntmps74
    go_wp2_with (go_at_call 78; refine (kindOf_any _ _).mono ?_; rintro e w' ⟨rfl, rfl⟩)
    all_goals go_ret
    all_goals exact ⟨ret_int H.out.symm, rfl⟩
  have b0 : (kindN t == 0) = false := by simp [k0]
  obtain ⟨most, hm⟩ : ∃ most : Int, most = if sizeN t = 0 then 4096 else sizeN t := ⟨_, rfl⟩
  by_cases hl : most < (len : Int)
  · have H : Hid (cbN t zs = 101122066) := by show cbN t zs = _; unfold cbN; rw [if_neg k0, if_pos (by rw [← hm, hs]; exact hl)]
    clear s0 s1 s5 hs hr k0
    by_cases z0 : sizeN t = 0
    · have bz : (sizeN t == 0) = true := by simp [z0]
      rw [if_pos z0] at hm; subst hm; clear z0
      go_enter Tryz.func74, Tryz.ntmps74
      go_wp2_with (go_at_call 78; refine (kindOf_any _ _).mono ?_; rintro e w' ⟨rfl, rfl⟩)
      all_goals go_ret
      all_goals exact ⟨ret_int H.out.symm, rfl⟩
    · have bz : (sizeN t == 0) = false := by simp [z0]
      rw [if_neg z0] at hm; subst hm; clear z0
      go_enter Tryz.func74, Tryz.ntmps74
      go_wp2_with (go_at_call 78; refine (kindOf_any _ _).mono ?_; rintro e w' ⟨rfl, rfl⟩)
      all_goals go_ret
      all_goals exact ⟨ret_int H.out.symm, rfl⟩
  by_cases hsh : (len : Int) < sizeN t
  · have H : Hid (cbN t zs = 101122067) := by show cbN t zs = _; unfold cbN; rw [if_neg k0, if_neg (by rw [← hm, hs]; exact hl), if_pos (by rw [hs]; exact hsh)]
    have bz : (sizeN t == 0) = false := by simp; omega
    rw [if_neg (by omega)] at hm; subst hm
    clear s0 s1 s5 hs hr k0
    go_enter Tryz.func74, Tryz.ntmps74
    go_wp2_with (go_at_call 78; refine (kindOf_any _ _).mono ?_; rintro e w' ⟨rfl, rfl⟩)
    all_goals go_ret
    all_goals exact ⟨ret_int H.out.symm, rfl⟩
  by_cases k1 : kindN t = 1
  · have b1 : (kindN t == 1) = true := by simp [k1]
    have b5 : (kindN t == 5) = false := by simp [k1]
    have e1 := s1 k1
    have bz : (sizeN t == 0) = false := by simp [e1]
    rw [if_neg (by omega)] at hm; subst hm
    obtain ⟨b, off, rfl, hc⟩ := hr.at_ (by omega)
    have hc0 := hc 0 (by omega)
    rw [Nat.add_zero] at hc0
    have ho := hr.oct.getD 0
    by_cases v1 : 1 < zs.getD 0 0
    · have H : Hid (cbN t zs = 101253168) := by show cbN t zs = _; unfold cbN; rw [if_neg k0, if_neg (by rw [if_neg (by omega), hs]; exact hl), if_neg (by rw [hs]; exact hsh), if_pos ⟨k1, v1⟩]
      have hp : (0 : Int) < (len : Int) := by omega
      clear s0 s1 s5 hs hr k0 hc k1
      generalize zs.getD 0 0 = z at *
      go_enter Tryz.func74, Tryz.ntmps74
      go_wp2_with (go_at_call 78; refine (kindOf_any _ _).mono ?_; rintro e w' ⟨rfl, rfl⟩)
      all_goals go_ret
      all_goals exact ⟨ret_int H.out.symm, rfl⟩
    · have H : Hid (cbN t zs = 0) := by show cbN t zs = _; unfold cbN; rw [if_neg k0, if_neg (by rw [if_neg (by omega), hs]; exact hl), if_neg (by rw [hs]; exact hsh), if_neg (by omega), if_neg (by omega)]
      have hp : (0 : Int) < (len : Int) := by omega
      clear s0 s1 s5 hs hr k0 hc k1
      generalize zs.getD 0 0 = z at *
      go_enter Tryz.func74, Tryz.ntmps74
      go_wp2_with (go_at_call 78; refine (kindOf_any _ _).mono ?_; rintro e w' ⟨rfl, rfl⟩)
      all_goals go_ret
      all_goals exact ⟨ret_int H.out.symm, rfl⟩
  have b1 : (kindN t == 1) = false := by simp [k1]
  by_cases k5 : kindN t = 5
  · have b5 : (kindN t == 5) = true := by simp [k5]
    have e5 := s5 k5
    have bz : (sizeN t == 0) = false := by simp [e5]
    rw [if_neg (by omega)] at hm; subst hm
    obtain ⟨b, off, rfl, hc⟩ := hr.at_ (by omega)
    have h4 := hr.head 4 (by omega)
    have hb := num_lt64 _ h4.oct (by rw [h4.size]; omega)
    by_cases v1 : 86400000 ≤ num (zs.take 4)
    · have H : Hid (cbN t zs = 101253168) := by show cbN t zs = _; unfold cbN; rw [if_neg k0, if_neg (by rw [if_neg (by omega), hs]; exact hl), if_neg (by rw [hs]; exact hsh), if_neg (by omega), if_pos ⟨k5, v1⟩]
      have hp : (4 : Int) ≤ (cap : Int) := by omega
      have hp' : (0 : Int) < (cap : Int) := by omega
      clear s0 s1 s5 hs hr k0 hc k1 k5
      go_enter Tryz.func74, Tryz.ntmps74
      go_wp2_with (first | (go_at_call 78; refine (kindOf_any _ _).mono ?_; rintro e w' ⟨rfl, rfl⟩) | (go_at_call 80; refine (number_any _ 4 _ _ _ h4 (by omega)).mono ?_; rintro e w' ⟨rfl, rfl⟩))
      all_goals go_ret
      all_goals exact ⟨ret_int H.out.symm, rfl⟩
    · have H : Hid (cbN t zs = 0) := by show cbN t zs = _; unfold cbN; rw [if_neg k0, if_neg (by rw [if_neg (by omega), hs]; exact hl), if_neg (by rw [hs]; exact hsh), if_neg (by omega), if_neg (by omega)]
      have hp : (4 : Int) ≤ (cap : Int) := by omega
      have hp' : (0 : Int) < (cap : Int) := by omega
      clear s0 s1 s5 hs hr k0 hc k1 k5
      go_enter Tryz.func74, Tryz.ntmps74
      go_wp2_with (first | (go_at_call 78; refine (kindOf_any _ _).mono ?_; rintro e w' ⟨rfl, rfl⟩) | (go_at_call 80; refine (number_any _ 4 _ _ _ h4 (by omega)).mono ?_; rintro e w' ⟨rfl, rfl⟩))
      all_goals go_ret
      all_goals exact ⟨ret_int H.out.symm, rfl⟩
  have b5 : (kindN t == 5) = false := by simp [k5]
  have H : Hid (cbN t zs = 0) := by show cbN t zs = _; unfold cbN; rw [if_neg k0, if_neg (by rw [← hm, hs]; exact hl), if_neg (by rw [hs]; exact hsh), if_neg (by omega), if_neg (by omega)]
  by_cases z0 : sizeN t = 0
  · have bz : (sizeN t == 0) = true := by simp [z0]
    rw [if_pos z0] at hm; subst hm
    clear s0 s1 s5 hs hr k0 k1 k5 z0
    go_enter Tryz.func74, Tryz.ntmps74
    go_wp2_with (go_at_call 78; refine (kindOf_any _ _).mono ?_; rintro e w' ⟨rfl, rfl⟩)
    all_goals go_ret
    all_goals exact ⟨ret_int H.out.symm, rfl⟩
  · have bz : (sizeN t == 0) = false := by simp [z0]
    rw [if_neg z0] at hm; subst hm
    clear s0 s1 s5 hs hr k0 k1 k5 z0
    go_enter Tryz.func74, Tryz.ntmps74
    go_wp2_with (go_at_call 78; refine (kindOf_any _ _).mono ?_; rintro e w' ⟨rfl, rfl⟩)
    all_goals go_ret
    all_goals exact ⟨ret_int H.out.symm, rfl⟩
end Go.Proofs.YtajllkkbgpijiaaGreatDoor.Ty
