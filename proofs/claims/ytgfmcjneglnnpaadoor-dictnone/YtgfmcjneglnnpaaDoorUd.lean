/-
  The frame of a command that is asked.
-/
import Derived.Test.YtgfmcjneglnnpaaDoorUc
namespace Go.Proofs.YtgfmcjneglnnpaaDoor
open Go.RowKit





end Go.Proofs.YtgfmcjneglnnpaaDoor
