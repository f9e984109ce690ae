/-
  The walks of the journal's small functions, and of the check.
-/
import Derived.Test.YtgpbmccjcjoijaaJb
import Derived.Test.YtgpbmccjcjoijaaFh
import Derived.Test.YtgpbmccjcjoijaaShelf
import Derived.Laws.BitsAllLaws
import Derived.Deep.LoopGhost
namespace Go.Proofs.Ytgpbmccjcjoijaa
open Go.RowKit

set_option maxHeartbeats 400000 in
theorem room_any (n : Nat) (h : n ≤ 1000000000) (w : World) :
    Calls Try.prog 40 #[.int .i64 n] w fun e w' => e = .returned (.int .i64 (rm n : Nat)) ∧ w' = w := by
  have h' : (n : Int) ≤ 1000000000 := by omega
  go_enter Try.func40, Try.ntmps40
  go_wp2_with fail
  go_ret
  exact ⟨ret_int (by unfold rm; omega), rfl⟩

set_option maxHeartbeats 400000 in
theorem size_any (v : Value) (fi : Int) (k : Nat) (h : k ≤ 1000) (w : World) :
    Calls Try.prog 39 #[.agg #[v, .int .i64 fi, .int .i64 k]] w fun e w' => e = .returned (.int .i64 (1024 * k : Nat)) ∧ Below w.heap.size w w' := by
  have h' : (k : Int) ≤ 1000 := by omega
  go_enter Try.func39, Try.ntmps39
  go_wp2_with fail
  go_ret
  exact ⟨ret_int (by omega), Below.al (Below.refl _ _) _⟩

set_option maxHeartbeats 400000 in
theorem stays_any (a b : Bool) (v : Value) (w : World) :
    Calls Try.prog 58 #[.agg #[.bool a, .bool b, v]] w fun e w' => e = .returned (.bool (a && !b)) ∧ Below w.heap.size w w' := by
  cases a <;> cases b
  all_goals
    go_enter Try.func58, Try.ntmps58
    go_wp2_with fail
    go_ret
    exact ⟨rfl, Below.al (Below.refl _ _) _⟩

#print axioms room_any
#print axioms size_any
#print axioms stays_any
end Go.Proofs.Ytgpbmccjcjoijaa
