/-
  The walks of reading the text 3p-1 as a float of 4 bytes, further.
-/
import Derived.Test.YtndogfemnpgfoaaDoorWk1
import Derived.Test.YtndogfemnpgfoaaDoorTogS
import Derived.Defers
import Derived.Recover
namespace Go.Proofs.YtndogfemnpgfoaaDoor
open Pl Go.RowKit

theorem cutPrefix_minus (w : World) : Calls Tryd.prog 57 #[.string ⟨#[45, 49]⟩, .string ⟨#[45]⟩] w fun e w' => e = .returned (.tuple #[.string ⟨#[49]⟩, .bool true]) ∧ w' = w :=
  Tryd.strings_CutPrefix ⟨#[45, 49]⟩ ⟨#[45]⟩ w
theorem cutPrefix_nan (w : World) : Calls Tryd.prog 57 #[.string ⟨#[51, 112, 45, 49]⟩, .string ⟨#[110, 97, 110, 58]⟩] w fun e w' => e = .returned (.tuple #[.string ⟨#[51, 112, 45, 49]⟩, .bool false]) ∧ w' = w :=
  Tryd.strings_CutPrefix ⟨#[51, 112, 45, 49]⟩ ⟨#[110, 97, 110, 58]⟩ w
theorem cutPrefix_none (w : World) : Calls Tryd.prog 57 #[.string ⟨#[51, 112, 45, 49]⟩, .string ⟨#[45]⟩] w fun e w' => e = .returned (.tuple #[.string ⟨#[51, 112, 45, 49]⟩, .bool false]) ∧ w' = w :=
  Tryd.strings_CutPrefix ⟨#[51, 112, 45, 49]⟩ ⟨#[45]⟩ w
theorem index_p (w : World) : Calls Tryd.prog 94 #[.string ⟨#[51, 112, 45, 49]⟩, .string ⟨#[112]⟩] w fun e w' => e = .returned (.int .i64 1) ∧ w' = w :=
  Tryd.stringslite_Index_one ⟨#[51, 112, 45, 49]⟩ 112 w

theorem cut_p (w : World) : Calls Tryd.prog 81 #[.string ⟨#[51, 112, 45, 49]⟩, .string ⟨#[112]⟩] w fun e w' => e = .returned (.tuple #[.string ⟨#[51]⟩, .string ⟨#[45, 49]⟩, .bool true]) ∧ Below w.heap.size w w' := by
  go_enter Tryd.func81, Tryd.ntmps81
  go_wp2_with fail
  refine (index_p _).mono ?_
  rintro e w' ⟨rfl, rfl⟩
  go_wp2_with fail
  go_quiet (fail)
  go_wp2_with fail
  go_ret3
  exact ⟨rfl, below_drewN (Below.refl _ _) _⟩
theorem strCut_p (w : World) : Calls Tryd.prog 63 #[.string ⟨#[51, 112, 45, 49]⟩, .string ⟨#[112]⟩] w fun e w' => e = .returned (.tuple #[.string ⟨#[51]⟩, .string ⟨#[45, 49]⟩, .bool true]) ∧ Below w.heap.size w w' := by
  go_enter Tryd.func63, Tryd.ntmps63
  go_wp2_with fail
  refine (cut_p _).mono ?_
  rintro e w' ⟨rfl, hb⟩
  go_wp2_with fail
  go_ret3
  exact ⟨rfl, hb⟩

theorem signed_minus1 (w : World) : Calls Tryd.prog 34 #[.string ⟨#[45, 49]⟩, .int .u64 9999, .int .u64 9999] w fun e w' => e = .returned (.int .u64 18446744073709551615) ∧ w' = w := by
  go_enter Tryd.func34, Tryd.ntmps34
  go_wp2_with fail
  refine (cutPrefix_minus _).mono ?_
  rintro e w' ⟨rfl, rfl⟩
  go_wp2_with fail
  refine (decimal_49 _).mono ?_
  rintro e w' ⟨rfl, rfl⟩
  go_wp2_with fail
  refine (must_true _).mono ?_
  rintro e w' ⟨rfl, rfl⟩
  go_wp2_with fail
  go_ret
  exact ⟨rfl, rfl⟩

/-- 3 times 2^-1 as a float of 4 bytes: 1069547520, that is 0 0 192 63. -/
theorem together_3 (w : World) (hT : Tab64 w) : Calls Tryd.prog 68 #[.agg #[.int .i64 23, .int .i64 127], .int .u64 3, .int .i64 (-1)] w fun r w' => r = .returned (.tuple #[.int .u64 1069547520, .bool true]) ∧ Below w.heap.size w w' := by
  refine (togetherHigh32 3 (-1) 3 0 2 148 w ⟨by decide, by decide, by decide, by decide, by decide, by decide, by decide⟩ hT (by decide) (by decide) (by decide) (by decide) (by decide) (by decide) (by decide)).mono ?_
  rintro r w' ⟨rfl, hb⟩
  exact ⟨rfl, hb⟩
end Go.Proofs.YtndogfemnpgfoaaDoor
