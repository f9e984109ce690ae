/-
  The walks of kindOf, Right, Size, and of the document's Kind, Size, Right: what each tells of a type, any type.
-/
import Derived.Test.YtpjmebaipnpegaaDoorPlain
import Derived.Test.YtpjmebaipnpegaaDoorChecked
import Derived.WalkKit
import Derived.WalkLawsBesides
import Derived.Deep.Light
namespace Go.Proofs.YtpjmebaipnpegaaDoor.Ty
open Pl

theorem ret_int {k : IntKind} {a b : Int} (h : a = b) : Ending.returned (.int k a) = .returned (.int k b) := by rw [h]
theorem ret_bool {a b : Bool} (h : a = b) : Ending.returned (.bool a) = .returned (.bool b) := by rw [h]
theorem ret_ii {k l : IntKind} {a b c d : Int} (h : a = b) (h' : c = d) : Ending.returned (.tuple #[.int k a, .int l c]) = .returned (.tuple #[.int k b, .int l d]) := by rw [h, h']
theorem ret_ib {k : IntKind} {a b : Int} {c d : Bool} (h : a = b) (h' : c = d) : Ending.returned (.tuple #[.int k a, .bool c]) = .returned (.tuple #[.int k b, .bool d]) := by rw [h, h']

set_option maxHeartbeats 1000000 in
theorem kindOf_any (t : Int) (w : World) :
    Calls Tryd.prog 44 #[.int .u8 t] w fun e w' => e = .returned (.tuple #[.int .u8 (kindN t), .int .i64 (sizeN t)]) ∧ w' = w := by
  go_enter Tryd.func44, Tryd.ntmps44
  go_wp2
  all_goals go_ret2
  all_goals refine ⟨ret_ii ?_ ?_, rfl⟩
  all_goals go_light
  all_goals simp_all [kindN, sizeN]





theorem right_any (t : Int) (w : World) :
    Calls Tryd.prog 31 #[.int .u8 t] w fun e w' => e = .returned (.bool (kindN t != 0)) ∧ w' = w := by
  go_enter Tryd.func31, Tryd.ntmps31
  go_wp2_with (go_at_call 44; refine (kindOf_any _ _).mono ?_; rintro e w' ⟨rfl, rfl⟩)
  go_ret
  exact ⟨rfl, rfl⟩

theorem size_any (t : Int) (w : World) :
    Calls Tryd.prog 45 #[.int .u8 t] w fun e w' => e = .returned (.tuple #[.int .i64 (sizeN t), .bool (decide (0 < sizeN t))]) ∧ w' = w := by
  go_enter Tryd.func45, Tryd.ntmps45
  go_wp2_with (go_at_call 44; refine (kindOf_any _ _).mono ?_; rintro e w' ⟨rfl, rfl⟩)
  go_ret2
  exact ⟨rfl, rfl⟩

end Go.Proofs.YtpjmebaipnpegaaDoor.Ty
