/-
  The frame of a command that is asked.
-/
import Derived.Test.YteifogeeckomaaaDoorUc
namespace Go.Proofs.YteifogeeckomaaaDoor
open Go.RowKit





end Go.Proofs.YteifogeeckomaaaDoor
