/-
  The frame of a command that is asked.
-/
import Derived.Test.YtajllkkbgpijiaaGreatDoorUc
namespace Go.Proofs.YtajllkkbgpijiaaGreatDoor
open Go.RowKit





end Go.Proofs.YtajllkkbgpijiaaGreatDoor
