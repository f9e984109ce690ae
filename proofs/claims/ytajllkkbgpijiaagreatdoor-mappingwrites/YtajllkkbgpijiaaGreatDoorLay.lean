/-
  The walks of the layouts of floats: layoutOf, infinity, least, apart.
-/
import Derived.Test.YtajllkkbgpijiaaGreatDoorCheck
import Derived.Deep.QuietTactic
import Derived.BigQuiet
import Derived.Deep.RegionHeld3
import Derived.Laws.BitsAllLaws
namespace Go.Proofs.YtajllkkbgpijiaaGreatDoor.Ty
open Pl Go.RowKit


theorem layoutOf32 (w : World) : Calls Tryz.prog 92 #[.int .i64 4] w fun e w' => e = .returned (.agg #[.int .i64 23, .int .i64 127]) ∧ w.alloc (.cells #[.int .i64 23, .int .i64 127] 147) = w' := by
  go_enter Tryz.func92, Tryz.ntmps92
  go_wp2
  exact bodyPost_ret (v := .agg #[.int .i64 23, .int .i64 127]) (by simp [results, Tryz.results92, go_sem]) rfl ⟨rfl, rfl⟩
theorem infinity32 (w : World) : Calls Tryz.prog 93 #[.agg #[.int .i64 23, .int .i64 127]] w fun e w' => e = .returned (.int .u64 2139095040) ∧ w.alloc (.cells #[.int .i64 23, .int .i64 127] 147) = w' := by
  go_enter Tryz.func93, Tryz.ntmps93
  go_wp2
  go_ret
  exact ⟨rfl, rfl⟩
theorem least32 (w : World) : Calls Tryz.prog 99 #[.agg #[.int .i64 23, .int .i64 127]] w fun e w' => e = .returned (.int .i64 (-149)) ∧ w.alloc (.cells #[.int .i64 23, .int .i64 127] 147) = w' := by
  go_enter Tryz.func99, Tryz.ntmps99
  go_wp2
  go_ret
  exact ⟨rfl, rfl⟩
theorem and_low32 (r : Int) (h0 : 0 ≤ r) (h1 : r < 18446744073709551616) : bits .and .u64 r 8388607 = r % 8388608 := by
  obtain ⟨n, rfl⟩ := Int.eq_ofNat_of_zero_le h0
  have h := u64_and_nat n 8388607 (by omega) (by decide)
  rw [show ((8388607 : Nat) : Int) = (8388607 : Int) from rfl] at h
  rw [h, show n &&& 8388607 = n % 8388608 from Nat.and_two_pow_sub_one_eq_mod n 23]; omega
theorem or_top32 (f : Int) (h0 : 0 ≤ f) (h1 : f < 8388608) : bits .or .u64 f 8388608 = 8388608 + f := by
  rw [bits_join_low .u64 64 (by decide) wraps_u64 23 f 8388608 h0 h1 (by have : (2:Int)^64 = 18446744073709551616 := rfl; rw [this]; omega) (by decide) (by decide) (by decide)]; omega
set_option maxHeartbeats 1000000 in
theorem apartLow32 (r : Int) (w : World) (h0 : 0 ≤ r) (h1 : r < 8388608) : Calls Tryz.prog 95 #[.agg #[.int .i64 23, .int .i64 127], .int .u64 r] w fun e w' => e = .returned (.tuple #[.int .u64 r, .int .i64 (-149)]) ∧ Below w.heap.size w w' := by
  have hb : bits .and .u64 r 8388607 = r := by rw [and_low32 r h0 (by omega)]; omega
  have hq : r / 8388608 = 0 := by omega
  go_enter Tryz.func95, Tryz.ntmps95
  go_wp2
  go_quiet (fail)
  go_wp2_with (go_at_call 99; refine (least32 _).mono ?_; rintro e w' ⟨rfl, rfl⟩)
  go_ret2
  exact ⟨rfl, (below_drewN ((Below.refl _ _).alloc (Nat.le_refl _) _) _).alloc (by simp) _⟩
set_option maxHeartbeats 2000000 in
theorem apartHigh32 (r : Int) (w : World) (h0 : 8388608 ≤ r) (h1 : r < 2139095040) : Calls Tryz.prog 95 #[.agg #[.int .i64 23, .int .i64 127], .int .u64 r] w fun e w' => e = .returned (.tuple #[.int .u64 (8388608 + r % 8388608), .int .i64 (-149 + r / 8388608 - 1)]) ∧ Below w.heap.size w w' := by
  have hb := and_low32 r (by omega) (by omega)
  have hm : 0 ≤ r % 8388608 ∧ r % 8388608 < 8388608 := by omega
  have hor := or_top32 (r % 8388608) hm.1 hm.2
  have hq : (r / 8388608 == 0) = false := by simp; omega
  have hq0 : 0 ≤ r / 8388608 := by omega
  have hq1 : r / 8388608 ≤ 2047 := by omega
  go_enter Tryz.func95, Tryz.ntmps95
  go_wp2
  go_quiet (fail)
  go_wp2
  go_region_held3 (fun w' => w'.cell? ⟨w.heap.size, 0, none⟩ = some (.int .i64 23) ∧ w'.cell? ⟨w.heap.size, 1, none⟩ = some (.int .i64 127)) (simp [go_sem, World.cell?_alloc_past]) ((go_at_call 99; refine (least32 _).mono ?_; rintro e w' ⟨rfl, rfl⟩))
  all_goals go_wp2
  all_goals go_ret2
  all_goals refine ⟨ret_ii (by rw [u64_wrap_id _ (by decide) (by decide)]; exact hor) (by simp only [IntKind.wrap_i64]; omega), ?_⟩
  all_goals repeat (first | exact Below.refl _ _ | refine Below.alloc ?_ (by simp) _ | refine Below.drew ?_ | refine below_drewN ?_ _)

theorem layoutOf64 (w : World) : Calls Tryz.prog 92 #[.int .i64 8] w fun e w' => e = .returned (.agg #[.int .i64 52, .int .i64 1023]) ∧ w.alloc (.cells #[.int .i64 52, .int .i64 1023] 147) = w' := by
  go_enter Tryz.func92, Tryz.ntmps92
  go_wp2
  exact bodyPost_ret (v := .agg #[.int .i64 52, .int .i64 1023]) (by simp [results, Tryz.results92, go_sem]) rfl ⟨rfl, rfl⟩
theorem infinity64 (w : World) : Calls Tryz.prog 93 #[.agg #[.int .i64 52, .int .i64 1023]] w fun e w' => e = .returned (.int .u64 9218868437227405312) ∧ w.alloc (.cells #[.int .i64 52, .int .i64 1023] 147) = w' := by
  go_enter Tryz.func93, Tryz.ntmps93
  go_wp2
  go_ret
  exact ⟨rfl, rfl⟩
theorem least64 (w : World) : Calls Tryz.prog 99 #[.agg #[.int .i64 52, .int .i64 1023]] w fun e w' => e = .returned (.int .i64 (-1074)) ∧ w.alloc (.cells #[.int .i64 52, .int .i64 1023] 147) = w' := by
  go_enter Tryz.func99, Tryz.ntmps99
  go_wp2
  go_ret
  exact ⟨rfl, rfl⟩
theorem and_low64 (r : Int) (h0 : 0 ≤ r) (h1 : r < 18446744073709551616) : bits .and .u64 r 4503599627370495 = r % 4503599627370496 := by
  obtain ⟨n, rfl⟩ := Int.eq_ofNat_of_zero_le h0
  have h := u64_and_nat n 4503599627370495 (by omega) (by decide)
  rw [show ((4503599627370495 : Nat) : Int) = (4503599627370495 : Int) from rfl] at h
  rw [h, show n &&& 4503599627370495 = n % 4503599627370496 from Nat.and_two_pow_sub_one_eq_mod n 52]; omega
theorem or_top64 (f : Int) (h0 : 0 ≤ f) (h1 : f < 4503599627370496) : bits .or .u64 f 4503599627370496 = 4503599627370496 + f := by
  rw [bits_join_low .u64 64 (by decide) wraps_u64 52 f 4503599627370496 h0 h1 (by have : (2:Int)^64 = 18446744073709551616 := rfl; rw [this]; omega) (by decide) (by decide) (by decide)]; omega
set_option maxHeartbeats 1000000 in
theorem apartLow64 (r : Int) (w : World) (h0 : 0 ≤ r) (h1 : r < 4503599627370496) : Calls Tryz.prog 95 #[.agg #[.int .i64 52, .int .i64 1023], .int .u64 r] w fun e w' => e = .returned (.tuple #[.int .u64 r, .int .i64 (-1074)]) ∧ Below w.heap.size w w' := by
  have hb : bits .and .u64 r 4503599627370495 = r := by rw [and_low64 r h0 (by omega)]; omega
  have hq : r / 4503599627370496 = 0 := by omega
  go_enter Tryz.func95, Tryz.ntmps95
  go_wp2
  go_quiet (fail)
  go_wp2_with (go_at_call 99; refine (least64 _).mono ?_; rintro e w' ⟨rfl, rfl⟩)
  go_ret2
  exact ⟨rfl, (below_drewN ((Below.refl _ _).alloc (Nat.le_refl _) _) _).alloc (by simp) _⟩
set_option maxHeartbeats 2000000 in
theorem apartHigh64 (r : Int) (w : World) (h0 : 4503599627370496 ≤ r) (h1 : r < 9218868437227405312) : Calls Tryz.prog 95 #[.agg #[.int .i64 52, .int .i64 1023], .int .u64 r] w fun e w' => e = .returned (.tuple #[.int .u64 (4503599627370496 + r % 4503599627370496), .int .i64 (-1074 + r / 4503599627370496 - 1)]) ∧ Below w.heap.size w w' := by
  have hb := and_low64 r (by omega) (by omega)
  have hm : 0 ≤ r % 4503599627370496 ∧ r % 4503599627370496 < 4503599627370496 := by omega
  have hor := or_top64 (r % 4503599627370496) hm.1 hm.2
  have hq : (r / 4503599627370496 == 0) = false := by simp; omega
  have hq0 : 0 ≤ r / 4503599627370496 := by omega
  have hq1 : r / 4503599627370496 ≤ 2047 := by omega
  go_enter Tryz.func95, Tryz.ntmps95
  go_wp2
  go_quiet (fail)
  go_wp2
  go_region_held3 (fun w' => w'.cell? ⟨w.heap.size, 0, none⟩ = some (.int .i64 52) ∧ w'.cell? ⟨w.heap.size, 1, none⟩ = some (.int .i64 1023)) (simp [go_sem, World.cell?_alloc_past]) ((go_at_call 99; refine (least64 _).mono ?_; rintro e w' ⟨rfl, rfl⟩))
  all_goals go_wp2
  all_goals go_ret2
  all_goals refine ⟨ret_ii (by rw [u64_wrap_id _ (by decide) (by decide)]; exact hor) (by simp only [IntKind.wrap_i64]; omega), ?_⟩
  all_goals repeat (first | exact Below.refl _ _ | refine Below.alloc ?_ (by simp) _ | refine Below.drew ?_ | refine below_drewN ?_ _)
end Go.Proofs.YtajllkkbgpijiaaGreatDoor.Ty
