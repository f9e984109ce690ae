/-
  The frame of a command that is asked.
-/
import Derived.Test.YthhcilekbmbglaaDoorUc
namespace Go.Proofs.YthhcilekbmbglaaDoor
open Go.RowKit





end Go.Proofs.YthhcilekbmbglaaDoor
