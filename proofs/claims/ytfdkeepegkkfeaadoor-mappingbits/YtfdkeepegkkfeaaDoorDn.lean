/-
  A dictionary that is not there.
-/
import Derived.Test.YtfdkeepegkkfeaaDoorDd
namespace Go.Proofs.YtfdkeepegkkfeaaDoor
open Go.RowKit

set_option linter.unusedSimpArgs false in
set_option maxHeartbeats 4000000 in
set_option maxRecDepth 100000 in
theorem find_nil (i s : Int) (w : World) : Calls Tryd.prog 21 #[.pointer none, plV i s] w fun e w' => e = .returned (.tuple #[.agg (itC 0 0 ⟨#[]⟩ 0 0 none 0 0 none 0 0 none 0 0 0 0 none 0 0), .int .u32 134217728]) ∧ Below w.heap.size w w' := by
  go_enter Tryd.func21, Tryd.ntmps21
  go_wp2_with (refine wpList_store_by rfl 54 _ _ rfl ⟨w.heap.size + 1, 0, none⟩ _ rfl rfl (storeI _ _ _ 0 0 ⟨#[]⟩ 0 0 none 0 0 none 0 0 none 0 0 0 0 none 0 0 _ (at11 _ (.cells (itC 0 0 ⟨#[]⟩ 0 0 none 0 0 none 0 0 none 0 0 0 0 none 0 0) 54) _ (by simp)) rfl) ?_)
  have hcc := fun j => cell_of_row _ (w.heap.size + 1) j _ _ _ (setRow_heap _ _ _ (itC 0 0 ⟨#[]⟩ 0 0 none 0 0 none 0 0 none 0 0 0 0 none 0 0) _ _ (at11 (w.alloc (.cells #[.int .u16 i, .int .u8 s] 39)) (.cells (itC 0 0 ⟨#[]⟩ 0 0 none 0 0 none 0 0 none 0 0 0 0 none 0 0) 54) (w.heap.size + 1) (by simp)))
  refine bodyPost_ret (v := .tuple #[.agg (itC 0 0 ⟨#[]⟩ 0 0 none 0 0 none 0 0 none 0 0 0 0 none 0 0), .int .u32 134217728]) ?_ rfl ⟨rfl, below_setRow (by repeat (first | exact Below.refl _ _ | apply Below.drew | apply Below.al)) (Nat.le_succ _) _⟩
  simp [results, Tryd.results21, go_sem, hcc]
set_option linter.unusedSimpArgs false in
set_option maxHeartbeats 4000000 in
set_option maxRecDepth 100000 in
theorem findE_nil (i s : Int) (w : World) : Calls Tryd.prog 44 #[.pointer none, plV i s] w fun e w' => e = .returned (.tuple #[.agg (enC 0 0 ⟨#[]⟩ 0 0 none 0 0 none 0 0 none 0 0 0 0), .int .u32 134217728]) ∧ Below w.heap.size w w' := by
  go_enter Tryd.func44, Tryd.ntmps44
  go_wp2_with fail
  refine (find_nil i s _).mono ?_
  rintro e w1 ⟨rfl, hb⟩
  have B1 : Hid (Below w.heap.size w w1) := Below.andThen (by repeat (first | exact Below.refl _ _ | apply Below.drew | apply Below.al)) hb
  have R1 : Hid (w1.heap[w.heap.size + 1]? = some (.cells (enC 0 0 ⟨#[]⟩ 0 0 none 0 0 none 0 0 none 0 0 0 0) 44 (0, 0))) := blk11 hb (at11 _ _ _ (by simp))
  have lr1 := lt_of_heap R1.out
  clear hb
  go_wp2_with (refine wpList_store_by rfl 44 _ _ rfl ⟨w.heap.size + 1, 0, none⟩ _ rfl rfl (storeE _ _ _ 0 0 ⟨#[]⟩ 0 0 none 0 0 none 0 0 none 0 0 0 0 _ (ext11 R1.out) rfl) ?_)
  have hcc := fun j => cell_of_row _ (w.heap.size + 1) j _ _ _ (setRow_heap _ _ _ (enC 0 0 ⟨#[]⟩ 0 0 none 0 0 none 0 0 none 0 0 0 0) _ _ (ext11 (o := .cells (itC 0 0 ⟨#[]⟩ 0 0 none 0 0 none 0 0 none 0 0 0 0 none 0 0) 54) R1.out))
  refine bodyPost_ret (v := .tuple #[.agg (enC 0 0 ⟨#[]⟩ 0 0 none 0 0 none 0 0 none 0 0 0 0), .int .u32 134217728]) ?_ rfl ⟨rfl, below_setRow (Below.al B1.out _) (Nat.le_succ _) _⟩
  simp [results, Tryd.results44, go_sem, hcc]
set_option linter.unusedSimpArgs false in
set_option maxHeartbeats 4000000 in
set_option maxRecDepth 100000 in
theorem read_nil8 (i s : Int) (w : World) : Calls Tryd.prog 18 #[.pointer none, plV i s] w fun e w' => e = .returned (.tuple #[.slice none 0 0, .int .u32 134217728]) ∧ Below w.heap.size w w' := by
  go_enter Tryd.func18, Tryd.ntmps18
  go_wp2_with fail
  refine (find_nil i s _).mono ?_
  rintro e w1 ⟨rfl, hb⟩
  have B1 : Hid (Below w.heap.size w w1) := Below.andThen (by repeat (first | exact Below.refl _ _ | apply Below.drew | apply Below.al)) hb
  clear hb
  go_wp2_with fail
  go_ret2
  exact ⟨rfl, Below.al B1.out _⟩
set_option linter.unusedSimpArgs false in
set_option maxHeartbeats 4000000 in
set_option maxRecDepth 100000 in
theorem may_nil (i s : Int) (b : Option Addr) (lb cb : Nat) (w : World) : Calls Tryd.prog 36 #[.pointer none, plV i s, .slice b lb cb] w fun e w' => e = .returned (.tuple #[.int .u8 0, .int .u32 134217728]) ∧ Below w.heap.size w w' := by
  go_enter Tryd.func36, Tryd.ntmps36
  go_wp2_with fail
  refine (find_nil i s _).mono ?_
  rintro e w1 ⟨rfl, hb⟩
  have B1 : Hid (Below w.heap.size w w1) := Below.andThen (by repeat (first | exact Below.refl _ _ | apply Below.drew | apply Below.al)) hb
  clear hb
  go_wp2_with fail
  go_ret2
  exact ⟨rfl, Below.al B1.out _⟩
set_option linter.unusedSimpArgs false in
set_option maxHeartbeats 4000000 in
set_option maxRecDepth 100000 in
theorem get_nil (i s : Int) (w : World) : Calls Tryd.prog 8 #[.pointer none, plV i s] w fun e w' => e = .returned (.tuple #[.slice none 0 0, .bool false]) ∧ Below w.heap.size w w' := by
  go_enter Tryd.func8, Tryd.ntmps8
  go_wp2_with fail
  refine (find_nil i s _).mono ?_
  rintro e w1 ⟨rfl, hb⟩
  have B1 : Hid (Below w.heap.size w w1) := Below.andThen (by repeat (first | exact Below.refl _ _ | apply Below.drew | apply Below.al)) hb
  clear hb
  go_wp2_with fail
  go_ret2
  exact ⟨rfl, Below.al B1.out _⟩
set_option linter.unusedSimpArgs false in
set_option maxHeartbeats 4000000 in
set_option maxRecDepth 100000 in
theorem write_nil8 (i s : Int) (b : Option Addr) (lb cb : Nat) (w : World) : Calls Tryd.prog 24 #[.pointer none, plV i s, .slice b lb cb] w fun e w' => e = .returned (.int .u32 134217728) ∧ Below w.heap.size w w' := by
  go_enter Tryd.func24, Tryd.ntmps24
  go_wp2_with fail
  refine (may_nil i s b lb cb _).mono ?_
  rintro e w1 ⟨rfl, hb⟩
  have B1 : Hid (Below w.heap.size w w1) := Below.andThen (by repeat (first | exact Below.refl _ _ | apply Below.drew | apply Below.al)) hb
  clear hb
  go_wp2_with fail
  go_ret
  exact ⟨rfl, B1.out⟩
end Go.Proofs.YtfdkeepegkkfeaaDoor
