/-
  The walks of the document's Digits and Signed: a number's decimal digits.
-/
import Derived.Test.YtkfmmpolcjbnbaaDoorFl1
import Derived.Test.YtkfmmpolcjbnbaaDoorLent
import Derived.Deep.RegionWith
namespace Go.Proofs.YtkfmmpolcjbnbaaDoor
open Pl Go.RowKit

theorem one_str (W : World) (c : Int) (h : 0 ≤ c ∧ c < 256) : (convert 22 9 (.slice (some ⟨W.heap.size, 0, none⟩) 1 1)).run Tryd.prog (W.alloc (.cells #[.int .u8 c] 5)) = .ok (.string (str [UInt8.ofNat c.toNat])) (W.alloc (.cells #[.int .u8 c] 5)) :=
  (row_lit W #[.int .u8 c] 5 [c] 1 rfl (fun n hn => by simp at hn; omega) rfl).str' 1

theorem dec_small (u : Nat) (h : u < 10) : Lib.decDigits u = [UInt8.ofNat (48 + u)] := by rw [Lib.decDigits, dif_pos h]
theorem dec_step (u : Nat) (h : ¬ u < 10) : Lib.decDigits u = Lib.decDigits (u / 10) ++ [UInt8.ofNat (48 + u % 10)] := by rw [Lib.decDigits, dif_neg h]

end Go.Proofs.YtkfmmpolcjbnbaaDoor
