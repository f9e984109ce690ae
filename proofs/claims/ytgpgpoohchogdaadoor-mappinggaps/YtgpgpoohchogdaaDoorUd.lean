/-
  The frame of a command that is asked.
-/
import Derived.Test.YtgpgpoohchogdaaDoorUc
namespace Go.Proofs.YtgpgpoohchogdaaDoor
open Go.RowKit





end Go.Proofs.YtgpgpoohchogdaaDoor
