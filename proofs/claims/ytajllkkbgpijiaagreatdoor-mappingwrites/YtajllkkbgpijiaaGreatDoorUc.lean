/-
  A client's first commands; a command's frame.
-/
import Derived.Test.YtajllkkbgpijiaaGreatDoorUb
import Derived.Deep.RegionHeld3
namespace Go.Proofs.YtajllkkbgpijiaaGreatDoor
open Go.RowKit

/-- The time that a now counts as. -/
def tmN (n : Int) : Int := if n < 0 then 0 else if 1099511627776 < n then 1099511627776 else n








end Go.Proofs.YtajllkkbgpijiaaGreatDoor
