/-
  What the rows' lists give: the library's tables hold their numbers; and a world for the witness.
-/
import Derived.Test.YtkfmmpolcjbnbaaDoorCards
import Derived.Test.YtkfmmpolcjbnbaaDoorTie
import Derived.Test.YtkfmmpolcjbnbaaDoorWk5
import Derived.WalkKit
import Derived.ProofKit
import Derived.OpenShut
import Derived.Deep.DeepHandedRow
import Derived.Lib.LaidTab
import Derived.MakeChecks
import Derived.Stop.LaidErr
namespace Go.Proofs.YtkfmmpolcjbnbaaDoor
open Pl Go.ChangeShapes Go.WideShapes Go.ChangeAt Go.RowKit

theorem own : ownKnob Tryd.prog.godebug = none := by kernel_rfl
theorem laidOut : laidOutB Tryd.prog = true := by kernel_rfl
theorem g64 : Tryd.prog.globalNamed "math/bits.deBruijn64tab" = some 2 := by kernel_rfl
theorem g64t : (Tryd.prog.globals[2]?).map (·.type) = some 125 := by kernel_rfl
theorem gPowt : (Tryd.prog.globals[1]?).map (·.type) = some 116 := by kernel_rfl
theorem cells64 : Tryd.prog.cellsOf 125 = 64 := by kernel_rfl
theorem cellsPow : Tryd.prog.cellsOf 116 = 20 := by kernel_rfl
theorem cellsU8 : Tryd.prog.cellsOf 5 = 1 := by kernel_rfl
theorem cellsU64 : Tryd.prog.cellsOf 53 = 1 := by kernel_rfl

/-- The rows' list, one for all. -/
abbrev laid3 : List (String × DataW Unit) := [("math/bits.deBruijn32tab", Rows.laid_math_bits_deBruijn32tab), ("math/bits.deBruijn64tab", Rows.laid_math_bits_deBruijn64tab), ("internal/strconv.uint64pow10", Rows.laid_internal_strconv_uint64pow10)]

theorem tabs {W : World} (h : laidMetH Tryd.prog laid3 W) : Tabs W := by
  rw [MakeChecks.laidMetH_plain _ _ _ (by kernel_rfl)] at h
  have h2 := h.tail
  have h3 := h2.tail
  have t64 : Lib.TabIs Tryd.prog W "math/bits.deBruijn64tab" .u8 (Lib.deBruijn64tab.map fun n : Nat => (n : Int)) :=
    Lib.tabIs_of_head g64 g64t Tryd.underlying125 Tryd.underlying5 cellsU8 cells64 h2
  have p10 : Lib.TabIs Tryd.prog W "internal/strconv.uint64pow10" .u64 Lib.pow10Tab :=
    Lib.tabIs_of_head gPow gPowt Tryd.underlying116 Tryd.underlying53 cellsU64 cellsPow h3
  refine ⟨fun j hj => ?_, p10⟩
  have := t64.cell g64 j (by simpa using hj)
  rw [this]
  simp [List.getD_eq_getElem?_getD, hj]

/-- A variable's cells laid anew. -/
def put (cs : Array Value) : Obj → Obj
  | .cells _ t frozen => .cells cs t frozen
  | o => o
end Go.Proofs.YtkfmmpolcjbnbaaDoor
