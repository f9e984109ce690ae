/-
  What the row's list gives: the library's table holds its numbers; and a world for the witness.
-/
import Derived.Test.YtajllkkbgpijiaaGreatDoorCards
import Derived.Test.YtajllkkbgpijiaaGreatDoorTie
import Derived.Test.YtajllkkbgpijiaaGreatDoorTog
import Derived.WalkKit
import Derived.ProofKit
import Derived.OpenShut
import Derived.Deep.DeepHandedRow
import Derived.Lib.LaidTab
import Derived.MakeChecks
import Derived.Stop.LaidErr
namespace Go.Proofs.YtajllkkbgpijiaaGreatDoor
open Go.ChangeShapes Go.WideShapes Go.ChangeAt Go.RowKit

theorem own : ownKnob Tryz.prog.godebug = none := by kernel_rfl
theorem laidOut : laidOutB Tryz.prog = true := by kernel_rfl
theorem g64 : Tryz.prog.globalNamed "math/bits.deBruijn64tab" = some 1 := by kernel_rfl
theorem g64t : (Tryz.prog.globals[1]?).map (·.type) = some 157 := by kernel_rfl
theorem cells64 : Tryz.prog.cellsOf 157 = 64 := by kernel_rfl
theorem cellsU8 : Tryz.prog.cellsOf 5 = 1 := by kernel_rfl
theorem tab10 {W : World} (h : laidMetH Tryz.prog [("math/bits.deBruijn64tab", Rows.laid_math_bits_deBruijn64tab)] W) : Ty.Tab64 W := by
  rw [MakeChecks.laidMetH_plain _ _ _ (by kernel_rfl)] at h
  have t64 : Lib.TabIs Tryz.prog W "math/bits.deBruijn64tab" .u8 (Lib.deBruijn64tab.map fun n : Nat => (n : Int)) :=
    Lib.tabIs_of_head g64 g64t Tryz.underlying157 Tryz.underlying5 cellsU8 cells64 h
  intro j hj
  have := t64.cell g64 j (by simpa using hj)
  rw [this]
  simp [List.getD_eq_getElem?_getD, hj]
/-- A variable's cells laid anew. -/
def put (cs : Array Value) : Obj → Obj
  | .cells _ t frozen => .cells cs t frozen
  | o => o
end Go.Proofs.YtajllkkbgpijiaaGreatDoor
