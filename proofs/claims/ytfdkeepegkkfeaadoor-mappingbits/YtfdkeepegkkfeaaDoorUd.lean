/-
  The frame of a command that is asked.
-/
import Derived.Test.YtfdkeepegkkfeaaDoorUc
namespace Go.Proofs.YtfdkeepegkkfeaaDoor
open Go.RowKit





end Go.Proofs.YtfdkeepegkkfeaaDoor
