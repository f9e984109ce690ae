/-
  The walks of kindOf, Right, Size, and of the document's Kind, Size, Right: what each tells of a type, any type.
-/
import Derived.Test.YtajllkkbgpijiaaGreatDoorPlain
import Derived.Test.YtajllkkbgpijiaaGreatDoorChecked
import Derived.WalkKit
import Derived.WalkLawsBesides
import Derived.Deep.Light
namespace Go.Proofs.YtajllkkbgpijiaaGreatDoor.Ty
open Pl

theorem ret_int {k : IntKind} {a b : Int} (h : a = b) : Ending.returned (.int k a) = .returned (.int k b) := by rw [h]
theorem ret_bool {a b : Bool} (h : a = b) : Ending.returned (.bool a) = .returned (.bool b) := by rw [h]
theorem ret_ii {k l : IntKind} {a b c d : Int} (h : a = b) (h' : c = d) : Ending.returned (.tuple #[.int k a, .int l c]) = .returned (.tuple #[.int k b, .int l d]) := by rw [h, h']
theorem ret_ib {k : IntKind} {a b : Int} {c d : Bool} (h : a = b) (h' : c = d) : Ending.returned (.tuple #[.int k a, .bool c]) = .returned (.tuple #[.int k b, .bool d]) := by rw [h, h']

set_option maxHeartbeats 1000000 in
theorem kindOf_any (t : Int) (w : World) :
    Calls Tryz.prog 78 #[.int .u8 t] w fun e w' => e = .returned (.tuple #[.int .u8 (kindN t), .int .i64 (sizeN t)]) ∧ w' = w := by
  go_enter Tryz.func78, Tryz.ntmps78
  go_wp2
  all_goals go_ret2
  all_goals refine ⟨ret_ii ?_ ?_, rfl⟩
  all_goals go_light
  all_goals simp_all [kindN, sizeN]

set_option maxHeartbeats 1000000 in
theorem refKind_any (t : Int) (w : World) :
    Calls Tryz.prog 70 #[.int .u8 t] w fun e w' => e = .returned (.int .u8 (letN t)) ∧ w' = w := by
  go_enter Tryz.func70, Tryz.ntmps70
  go_wp2
  all_goals go_ret
  all_goals refine ⟨ret_int ?_, rfl⟩
  all_goals go_light
  all_goals simp_all [letN, kindN]

set_option maxHeartbeats 1000000 in
theorem refSize_any (t : Int) (w : World) :
    Calls Tryz.prog 68 #[.int .u8 t] w fun e w' => e = .returned (.tuple #[.int .i64 (sizeN t), .bool (decide (0 < sizeN t))]) ∧ w' = w := by
  go_enter Tryz.func68, Tryz.ntmps68
  go_wp2
  all_goals go_ret2
  all_goals refine ⟨ret_ib ?_ ?_, rfl⟩
  all_goals go_light
  all_goals simp_all [sizeN]

theorem right_any (t : Int) (w : World) :
    Calls Tryz.prog 58 #[.int .u8 t] w fun e w' => e = .returned (.bool (kindN t != 0)) ∧ w' = w := by
  go_enter Tryz.func58, Tryz.ntmps58
  go_wp2_with (go_at_call 78; refine (kindOf_any _ _).mono ?_; rintro e w' ⟨rfl, rfl⟩)
  go_ret
  exact ⟨rfl, rfl⟩

theorem size_any (t : Int) (w : World) :
    Calls Tryz.prog 66 #[.int .u8 t] w fun e w' => e = .returned (.tuple #[.int .i64 (sizeN t), .bool (decide (0 < sizeN t))]) ∧ w' = w := by
  go_enter Tryz.func66, Tryz.ntmps66
  go_wp2_with (go_at_call 78; refine (kindOf_any _ _).mono ?_; rintro e w' ⟨rfl, rfl⟩)
  go_ret2
  exact ⟨rfl, rfl⟩

theorem refRight_any (t : Int) (w : World) :
    Calls Tryz.prog 61 #[.int .u8 t] w fun e w' => e = .returned (.bool (letN t != 0)) ∧ w' = w := by
  go_enter Tryz.func61, Tryz.ntmps61
  go_wp2_with (go_at_call 70; refine (refKind_any _ _).mono ?_; rintro e w' ⟨rfl, rfl⟩)
  go_ret
  exact ⟨rfl, rfl⟩
end Go.Proofs.YtajllkkbgpijiaaGreatDoor.Ty
