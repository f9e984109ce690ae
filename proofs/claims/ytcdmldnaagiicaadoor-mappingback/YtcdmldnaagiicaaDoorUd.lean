/-
  The frame of a command that is asked.
-/
import Derived.Test.YtcdmldnaagiicaaDoorUc
namespace Go.Proofs.YtcdmldnaagiicaaDoor
open Go.RowKit





end Go.Proofs.YtcdmldnaagiicaaDoor
