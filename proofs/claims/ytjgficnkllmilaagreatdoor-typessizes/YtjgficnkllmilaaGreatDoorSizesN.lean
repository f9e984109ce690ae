/-
  The walk of TypesSizes at the types without a size, and at all.
-/
import Derived.Test.YtjgficnkllmilaaGreatDoorSizes
namespace Go.Proofs.YtjgficnkllmilaaGreatDoor
open Pl Go.RowKit

theorem str_zero (a : Option Addr) (c : Nat) (w : World) : (convert 24 9 (.slice a 0 c)).run Tryz.prog w = .ok (.string ⟨#[]⟩) w :=
  run_convert_bytes_zero w 24 5 Tryz.underlying24 Tryz.underlying5 a c 9 Tryz.underlying9

theorem make_zero (w : World) : (Instr.makeSlice 24 (.int .i64 0) (.int .i64 0)).run Tryz.prog w = .ok (.slice (some ⟨w.heap.size, 0, none⟩) 0 0) (w.alloc (.cells #[] 5)) := by
  have h := make_run 0 (by decide) w
  rw [show madeCells #[Value.int .u8 0] 0 = #[] from by simp [madeCells]] at h
  exact h

set_option maxHeartbeats 4000000 in
set_option maxRecDepth 100000 in
theorem sizes_none (t : Int) (w : World) (hT : Tabs w) (h : sizeN t = 0) :
    Calls Tryz.prog 3 #[.int .u8 t] w fun e w' => e = .returned (.bool true) ∧ Below w.heap.size w w' := by
  have H : Hid (sizeN t = 0) := h
  have HC : Hid (kindN t ≠ 0 → chkN t (zeros 0) [] [] = 0) := fun hk => chk_zeros t 0 h hk
  have hst := str_zero
  have hmk := make_zero
  have hd : decide ((0 : Int) < 0) = false := by decide
  clear h
  by_cases hk : kindN t = 0
  · have HK : Hid ((kindN t != 0) = false) := by show (kindN t != 0) = false; simp [hk]
    have HL : Hid ((letN t != 0) = false) := by show (letN t != 0) = false; rw [let_right]; simp [hk]
    clear hk
    go_enter Tryz.func3, Tryz.ntmps3
    go_wp2_with fail
    refine (size_any _ _).mono ?_
    rw [H.out, hd]
    rintro e w ⟨rfl, rfl⟩
    go_wp2_with fail
    refine (refSize_any _ _).mono ?_
    rw [H.out, hd]
    rintro e w ⟨rfl, rfl⟩
    go_wp2_with fail
    refine (zero_none t _ H.out).mono ?_
    rintro e w ⟨rfl, rfl⟩
    go_wp2_with fail
    refine (right_any _ _).mono ?_
    rw [HK.out]
    rintro e w ⟨rfl, rfl⟩
    go_wp2_with fail
    refine (refRight_any _ _).mono ?_
    rw [HL.out]
    rintro e w ⟨rfl, rfl⟩
    go_wp2_with fail
    go_loop [8] (fun i => i = .int .i64 0) (fun _ => 0)
    case atStart => rfl
    case round =>
      subst hrel
      go_wp2_with fail
      refine (zero_none t _ H.out).mono ?_
      rintro e w ⟨rfl, rfl⟩
      go_wp2_with fail
      first
        | (go_region_with (first
            | (go_at_call 11; refine (right_any _ _).mono ?_; rw [HK.out]; rintro e x ⟨rfl, rfl⟩)
            | (go_at_call 14; refine (works_from w _ (by repeat (first | exact Below.refl _ _ | refine Below.al ?_ _ | refine Below.drew ?_)) hT).mono ?_; rintro e y ⟨rfl, hby⟩)))
        | fail
      all_goals go_wp2_with fail
      all_goals go_ret
      all_goals exact ⟨rfl, hby⟩
  · have HK : Hid ((kindN t != 0) = true) := by show (kindN t != 0) = true; simp [hk]
    have HL : Hid ((letN t != 0) = true) := by show (letN t != 0) = true; rw [let_right]; simp [hk]
    have HCk : Hid (chkN t (zeros 0) [] [] = 0) := HC.out hk
    clear hk HC
    go_enter Tryz.func3, Tryz.ntmps3
    go_wp2_with fail
    refine (size_any _ _).mono ?_
    rw [H.out, hd]
    rintro e w ⟨rfl, rfl⟩
    go_wp2_with fail
    refine (refSize_any _ _).mono ?_
    rw [H.out, hd]
    rintro e w ⟨rfl, rfl⟩
    go_wp2_with fail
    refine (zero_none t _ H.out).mono ?_
    rintro e w ⟨rfl, rfl⟩
    go_wp2_with fail
    refine (right_any _ _).mono ?_
    rw [HK.out]
    rintro e w ⟨rfl, rfl⟩
    go_wp2_with fail
    refine (refRight_any _ _).mono ?_
    rw [HL.out]
    rintro e w ⟨rfl, rfl⟩
    go_wp2_with fail
    go_loop [8] (fun i => i = .int .i64 0) (fun _ => 0)
    case atStart => rfl
    case round =>
      subst hrel
      go_wp2_with fail
      refine (zero_none t _ H.out).mono ?_
      rintro e w ⟨rfl, rfl⟩
      go_wp2_with fail
      go_region_with (first
        | (go_at_call 11; refine (right_any _ _).mono ?_; rw [HK.out]; rintro e x ⟨rfl, rfl⟩)
        | (go_at_call 13; refine (check_zero t 0 _ w _ (by repeat (first | exact Below.refl _ _ | refine Below.al ?_ _ | refine Below.drew ?_)) (row_nil _) hT (by decide) HCk.out).mono ?_; rintro e x ⟨rfl, hbx⟩)
        | (go_at_call 14; refine (works_from w _ (by repeat (first | exact hbx | refine Below.drew ?_)) hT).mono ?_; rintro e y ⟨rfl, hby⟩))
      all_goals go_wp2_with fail
      all_goals go_ret
      all_goals exact ⟨rfl, hby⟩

theorem sizes_any (t : Int) (w : World) (hT : Tabs w) :
    Calls Tryz.prog 3 #[.int .u8 t] w fun e w' => e = .returned (.bool true) ∧ Below w.heap.size w w' := by
  have hb := size_bd t
  by_cases h : sizeN t = 0
  · exact sizes_none t w hT h
  · obtain ⟨n, hn⟩ := Int.eq_ofNat_of_zero_le hb.1
    exact sizes_some t n w hT hn (by omega)
#print axioms sizes_any
end Go.Proofs.YtjgficnkllmilaaGreatDoor
