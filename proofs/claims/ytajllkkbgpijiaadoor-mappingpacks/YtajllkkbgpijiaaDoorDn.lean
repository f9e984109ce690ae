/-
  A dictionary that is not there.
-/
import Derived.Test.YtajllkkbgpijiaaDoorDg
namespace Go.Proofs.YtajllkkbgpijiaaDoor
open Go.RowKit

set_option linter.unusedSimpArgs false in
set_option maxHeartbeats 4000000 in
set_option maxRecDepth 100000 in
theorem find_nil (i s : Int) (w : World) : Calls Tryd.prog 34 #[.pointer none, plV i s] w fun e w' => e = .returned (.tuple #[.agg (itC 0 0 ⟨#[]⟩ 0 0 none 0 0 none 0 0 none 0 0 0 0 none 0 0), .int .u32 134217728]) ∧ Below w.heap.size w w' := by
  go_enter Tryd.func34, Tryd.ntmps34
  go_wp2_with (refine wpList_store_by rfl 81 _ _ rfl ⟨w.heap.size + 1, 0, none⟩ _ rfl rfl (storeI _ _ _ 0 0 ⟨#[]⟩ 0 0 none 0 0 none 0 0 none 0 0 0 0 none 0 0 _ (at11 _ (.cells (itC 0 0 ⟨#[]⟩ 0 0 none 0 0 none 0 0 none 0 0 0 0 none 0 0) 81) _ (by simp)) rfl) ?_)
  have hcc := fun j => cell_of_row _ (w.heap.size + 1) j _ _ _ (setRow_heap _ _ _ (itC 0 0 ⟨#[]⟩ 0 0 none 0 0 none 0 0 none 0 0 0 0 none 0 0) _ _ (at11 (w.alloc (.cells #[.int .u16 i, .int .u8 s] 52)) (.cells (itC 0 0 ⟨#[]⟩ 0 0 none 0 0 none 0 0 none 0 0 0 0 none 0 0) 81) (w.heap.size + 1) (by simp)))
  refine bodyPost_ret (v := .tuple #[.agg (itC 0 0 ⟨#[]⟩ 0 0 none 0 0 none 0 0 none 0 0 0 0 none 0 0), .int .u32 134217728]) ?_ rfl ⟨rfl, below_setRow (by repeat (first | exact Below.refl _ _ | apply Below.drew | apply Below.al)) (Nat.le_succ _) _⟩
  simp [results, Tryd.results34, go_sem, hcc]
set_option linter.unusedSimpArgs false in
set_option maxHeartbeats 4000000 in
set_option maxRecDepth 100000 in
theorem findE_nil (i s : Int) (w : World) : Calls Tryd.prog 57 #[.pointer none, plV i s] w fun e w' => e = .returned (.tuple #[.agg (enC 0 0 ⟨#[]⟩ 0 0 none 0 0 none 0 0 none 0 0 0 0), .int .u32 134217728]) ∧ Below w.heap.size w w' := by
  go_enter Tryd.func57, Tryd.ntmps57
  go_wp2_with fail
  refine (find_nil i s _).mono ?_
  rintro e w1 ⟨rfl, hb⟩
  have B1 : Hid (Below w.heap.size w w1) := Below.andThen (by repeat (first | exact Below.refl _ _ | apply Below.drew | apply Below.al)) hb
  have R1 : Hid (w1.heap[w.heap.size + 1]? = some (.cells (enC 0 0 ⟨#[]⟩ 0 0 none 0 0 none 0 0 none 0 0 0 0) 42 (0, 0))) := blk11 hb (at11 _ _ _ (by simp))
  have lr1 := lt_of_heap R1.out
  clear hb
  go_wp2_with (refine wpList_store_by rfl 42 _ _ rfl ⟨w.heap.size + 1, 0, none⟩ _ rfl rfl (storeE _ _ _ 0 0 ⟨#[]⟩ 0 0 none 0 0 none 0 0 none 0 0 0 0 _ (ext11 R1.out) rfl) ?_)
  have hcc := fun j => cell_of_row _ (w.heap.size + 1) j _ _ _ (setRow_heap _ _ _ (enC 0 0 ⟨#[]⟩ 0 0 none 0 0 none 0 0 none 0 0 0 0) _ _ (ext11 (o := .cells (itC 0 0 ⟨#[]⟩ 0 0 none 0 0 none 0 0 none 0 0 0 0 none 0 0) 81) R1.out))
  refine bodyPost_ret (v := .tuple #[.agg (enC 0 0 ⟨#[]⟩ 0 0 none 0 0 none 0 0 none 0 0 0 0), .int .u32 134217728]) ?_ rfl ⟨rfl, below_setRow (Below.al B1.out _) (Nat.le_succ _) _⟩
  simp [results, Tryd.results57, go_sem, hcc]
set_option linter.unusedSimpArgs false in
set_option maxHeartbeats 4000000 in
set_option maxRecDepth 100000 in
theorem read_nil8 (i s : Int) (w : World) : Calls Tryd.prog 18 #[.pointer none, plV i s] w fun e w' => e = .returned (.tuple #[.slice none 0 0, .int .u32 134217728]) ∧ Below w.heap.size w w' := by
  go_enter Tryd.func18, Tryd.ntmps18
  go_wp2_with fail
  refine (find_nil i s _).mono ?_
  rintro e w1 ⟨rfl, hb⟩
  have B1 : Hid (Below w.heap.size w w1) := Below.andThen (by repeat (first | exact Below.refl _ _ | apply Below.drew | apply Below.al)) hb
  clear hb
  go_wp2_with fail
  go_ret2
  exact ⟨rfl, Below.al B1.out _⟩
set_option linter.unusedSimpArgs false in
set_option maxHeartbeats 4000000 in
set_option maxRecDepth 100000 in
theorem may_nil (i s : Int) (b : Option Addr) (lb cb : Nat) (w : World) : Calls Tryd.prog 51 #[.pointer none, plV i s, .slice b lb cb] w fun e w' => e = .returned (.tuple #[.int .u8 0, .int .u32 134217728]) ∧ Below w.heap.size w w' := by
  go_enter Tryd.func51, Tryd.ntmps51
  go_wp2_with fail
  refine (find_nil i s _).mono ?_
  rintro e w1 ⟨rfl, hb⟩
  have B1 : Hid (Below w.heap.size w w1) := Below.andThen (by repeat (first | exact Below.refl _ _ | apply Below.drew | apply Below.al)) hb
  clear hb
  go_wp2_with fail
  go_ret2
  exact ⟨rfl, Below.al B1.out _⟩
set_option linter.unusedSimpArgs false in
set_option maxHeartbeats 4000000 in
set_option maxRecDepth 100000 in
theorem get_nil (i s : Int) (w : World) : Calls Tryd.prog 14 #[.pointer none, plV i s] w fun e w' => e = .returned (.tuple #[.slice none 0 0, .bool false]) ∧ Below w.heap.size w w' := by
  go_enter Tryd.func14, Tryd.ntmps14
  go_wp2_with fail
  refine (find_nil i s _).mono ?_
  rintro e w1 ⟨rfl, hb⟩
  have B1 : Hid (Below w.heap.size w w1) := Below.andThen (by repeat (first | exact Below.refl _ _ | apply Below.drew | apply Below.al)) hb
  clear hb
  go_wp2_with fail
  go_ret2
  exact ⟨rfl, Below.al B1.out _⟩
set_option linter.unusedSimpArgs false in
set_option maxHeartbeats 4000000 in
set_option maxRecDepth 100000 in
theorem write_nil8 (i s : Int) (b : Option Addr) (lb cb : Nat) (w : World) : Calls Tryd.prog 33 #[.pointer none, plV i s, .slice b lb cb] w fun e w' => e = .returned (.int .u32 134217728) ∧ Below w.heap.size w w' := by
  go_enter Tryd.func33, Tryd.ntmps33
  go_wp2_with fail
  refine (may_nil i s b lb cb _).mono ?_
  rintro e w1 ⟨rfl, hb⟩
  have B1 : Hid (Below w.heap.size w w1) := Below.andThen (by repeat (first | exact Below.refl _ _ | apply Below.drew | apply Below.al)) hb
  clear hb
  go_wp2_with fail
  go_ret
  exact ⟨rfl, B1.out⟩
set_option linter.unusedSimpArgs false in
set_option maxHeartbeats 4000000 in
set_option maxRecDepth 100000 in
theorem changes_nil (w : World) : Calls Tryd.prog 25 #[.pointer none] w fun e w' => e = .returned (.int .i64 0) ∧ w' = w := by
  go_enter Tryd.func25, Tryd.ntmps25
  go_wp2_with fail
  go_ret
  exact ⟨rfl, rfl⟩
end Go.Proofs.YtajllkkbgpijiaaDoor
