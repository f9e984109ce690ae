/-
  The frame of a command that is asked.
-/
import Derived.Test.YtkhjnggjiljmhaaDoorUc
namespace Go.Proofs.YtkhjnggjiljmhaaDoor
open Go.RowKit





end Go.Proofs.YtkhjnggjiljmhaaDoor
