/-
  The frame of a command that is asked.
-/
import Derived.Test.YtpjmebaipnpegaaDoorUc
namespace Go.Proofs.YtpjmebaipnpegaaDoor
open Go.RowKit





end Go.Proofs.YtpjmebaipnpegaaDoor
