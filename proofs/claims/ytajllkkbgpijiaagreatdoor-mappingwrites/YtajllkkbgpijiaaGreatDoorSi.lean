/-
  Eight bytes, and a command, stored as a whole.
-/
import Derived.Test.YtajllkkbgpijiaaGreatDoorSc
namespace Go.Proofs.YtajllkkbgpijiaaGreatDoor
open Go.RowKit

theorem ar8_one (b0 b1 b2 b3 b4 b5 b6 b7 : Int) : (ar8 b0 b1 b2 b3 b4 b5 b6 b7).all (·.oneCell') = true := by simp [Value.oneCell']
theorem cmC_one (k i s : Int) (z : Bool) (n : Int) (q : Bool) (a : Option Addr) (len cap : Nat) (t l c : Bool) (b e u m o : Int) : (cmC k i s z n q a len cap t l c b e u m o).all (·.oneCell') = true := by simp [Value.oneCell']
end Go.Proofs.YtajllkkbgpijiaaGreatDoor
