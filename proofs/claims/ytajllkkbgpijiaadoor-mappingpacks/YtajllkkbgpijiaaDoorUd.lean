/-
  The frame of a command that is asked.
-/
import Derived.Test.YtajllkkbgpijiaaDoorUc
namespace Go.Proofs.YtajllkkbgpijiaaDoor
open Go.RowKit





end Go.Proofs.YtajllkkbgpijiaaDoor
