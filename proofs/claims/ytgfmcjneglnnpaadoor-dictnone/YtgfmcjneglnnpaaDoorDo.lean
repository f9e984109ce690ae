/-
  DictNone returns true, where the example works.
-/
import Derived.Test.YtgfmcjneglnnpaaDoorDn
namespace Go.Proofs.YtgfmcjneglnnpaaDoor
open Go.RowKit

set_option linter.unusedSimpArgs false in
set_option maxHeartbeats 4000000 in
set_option maxRecDepth 100000 in
theorem same_bytes8 (a b : Option Addr) (la ca lb cb : Nat) (xs ys : List Int) (w : World) (ha : Row w a la xs) (hb : Row w b lb ys) :
    Calls Tryd.prog 23 #[.slice a la ca, .slice b lb cb] w fun e w' => e = .returned (.bool ((strOfNums xs).toList == (strOfNums ys).toList)) ∧ w' = w := by
  have h1 := ha.str ca
  have h2 := hb.str cb
  clear ha hb
  go_enter Tryd.func23, Tryd.ntmps23
  go_wp2_with fail
  go_ret
  exact ⟨rfl, rfl⟩
theorem same_none (w : World) : Calls Tryd.prog 23 #[.slice none 0 0, .slice none 0 0] w fun e w' => e = .returned (.bool true) ∧ w' = w := by
  have := same_bytes8 none none 0 0 0 0 [] [] w (row_nil _) (row_nil _)
  simpa using this
set_option linter.unusedSimpArgs false in
set_option maxHeartbeats 4000000 in
set_option maxRecDepth 100000 in
theorem sameEntry_zero (w : World) : Calls Tryd.prog 11 #[.agg (enC 0 0 ⟨#[]⟩ 0 0 none 0 0 none 0 0 none 0 0 0 0), .agg (enC 0 0 ⟨#[]⟩ 0 0 none 0 0 none 0 0 none 0 0 0 0)] w fun e w' => e = .returned (.bool true) ∧ Below w.heap.size w w' := by
  go_enter Tryd.func11, Tryd.ntmps11
  go_wp2_with fail
  refine (same_none _).mono ?_
  rintro e w1 ⟨rfl, rfl⟩
  go_wp2_with fail
  refine (same_none _).mono ?_
  rintro e w1 ⟨rfl, rfl⟩
  go_wp2_with fail
  refine (same_none _).mono ?_
  rintro e w1 ⟨rfl, rfl⟩
  go_wp2_with fail
  go_ret
  exact ⟨rfl, (by repeat (first | exact Below.refl _ _ | apply Below.drew | apply Below.al))⟩
theorem place_in (w : World) (i s : Int) (W : World) (h : Below (w.heap.size + 1) (w.alloc (.cells #[.int .u16 i, .int .u8 s] 24)) W) : W.cell? ⟨w.heap.size, 0, none⟩ = some (.int .u16 i) ∧ W.cell? ⟨w.heap.size, 1, none⟩ = some (.int .u8 s) := by
  have hp : W.heap[w.heap.size]? = some (.cells #[.int .u16 i, .int .u8 s] 24 (0, 0)) := (h.block _ (Nat.lt_succ_self _)).trans (at11 _ _ _ rfl)
  constructor
  · rw [cell_of_row _ _ 0 _ _ _ hp]; rfl
  · rw [cell_of_row _ _ 1 _ _ _ hp]; rfl
end Go.Proofs.YtgfmcjneglnnpaaDoor
