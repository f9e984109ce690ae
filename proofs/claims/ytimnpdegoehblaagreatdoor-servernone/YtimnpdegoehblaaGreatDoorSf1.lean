/-
  The walk of the reading of a size that is told.
  The walk of the reading of a size that is not told.
-/
import Derived.Test.YtimnpdegoehblaaGreatDoorSf
namespace Go.Proofs.YtimnpdegoehblaaGreatDoor
open Go.RowKit

set_option linter.unusedSimpArgs false in
set_option maxHeartbeats 4000000 in
set_option maxRecDepth 100000 in
theorem readSize_true (b0 b1 b2 b3 b4 b5 b6 b7 : Int) (h1 : 0 ≤ b1 ∧ b1 < 256) (h2 : 0 ≤ b2 ∧ b2 < 256) (h4 : 0 ≤ b4 ∧ b4 < 256) (h5 : 0 ≤ b5 ∧ b5 < 256) (h6 : 0 ≤ b6 ∧ b6 < 256) (h7 : 0 ≤ b7 ∧ b7 < 256) (hZ : (bits .and .u8 b0 2 != 0) = true) (w : World) :
    Calls Tryz.prog 71 #[arr8 b0 b1 b2 b3 b4 b5 b6 b7] w (RPost w ⟨0, b1 + 256 * b2, b3, bt b0 2, if bt b0 2 then b4 + 256 * b5 + 65536 * b6 + 16777216 * b7 else 0, false, [], false, false, bt b0 4, 0, 0, 0, 0, 0⟩) := by
  obtain ⟨C, hC⟩ : ∃ C, (bits .and .u8 b0 4 != 0) = C := ⟨_, rfl⟩
  have hC' : bt b0 4 = C := hC
  have hZ' : bt b0 2 = true := hZ
  rw [hC', hZ']
  clear hC' hZ'
  simp only [Bool.false_eq_true, if_false, if_true]
  go_enter Tryz.func71, Tryz.ntmps71
  go_wp2_with fail
  go_region_held3 (fun x => x.cell? ⟨w.heap.size, 0, none⟩ = some (.int .u8 (b0)) ∧ x.cell? ⟨w.heap.size, 1, none⟩ = some (.int .u8 (b1)) ∧ x.cell? ⟨w.heap.size, 2, none⟩ = some (.int .u8 (b2)) ∧ x.cell? ⟨w.heap.size, 3, none⟩ = some (.int .u8 (b3)) ∧ x.cell? ⟨w.heap.size, 4, none⟩ = some (.int .u8 (b4)) ∧ x.cell? ⟨w.heap.size, 5, none⟩ = some (.int .u8 (b5)) ∧ x.cell? ⟨w.heap.size, 6, none⟩ = some (.int .u8 (b6)) ∧ x.cell? ⟨w.heap.size, 7, none⟩ = some (.int .u8 (b7))) ((simp [go_sem]; done)) (first | ((go_at_call 103; with_reducible refine (placeIn_any _ _ _ _ _ _ _ _ h1 h2 _).mono ?_; rintro r w1 ⟨rfl, p1, p2, rfl⟩)))
  all_goals
    go_wp2_with fail
    with_reducible refine (numberIn_any _ _ _ _ _ _ _ _ h4 h5 h6 h7 _).mono ?_
    rintro r w1 ⟨rfl, q1, rfl⟩
    go_wp2_with fail
    exact bodyPost_ret (v := cmV (0) (b1 + 256 * b2) (b3) (true) (b4 + 256 * b5 + 65536 * b6 + 16777216 * b7) (false) none 0 0 (false) (false) (C) (0) (0) (0) (0) (0)) (by simp [results, Tryz.results71, go_sem, bt]) rfl ⟨none, 0, rfl, told_nil _ _, (by repeat (first | exact Below.refl _ _ | apply Below.drew | apply Below.al))⟩

#print axioms readSize_true
end Go.Proofs.YtimnpdegoehblaaGreatDoor
namespace Go.Proofs.YtimnpdegoehblaaGreatDoor
open Go.RowKit

set_option linter.unusedSimpArgs false in
set_option maxHeartbeats 4000000 in
set_option maxRecDepth 100000 in
theorem readSize_false (b0 b1 b2 b3 b4 b5 b6 b7 : Int) (h1 : 0 ≤ b1 ∧ b1 < 256) (h2 : 0 ≤ b2 ∧ b2 < 256) (hZ : (bits .and .u8 b0 2 != 0) = false) (w : World) :
    Calls Tryz.prog 71 #[arr8 b0 b1 b2 b3 b4 b5 b6 b7] w (RPost w ⟨0, b1 + 256 * b2, b3, bt b0 2, if bt b0 2 then b4 + 256 * b5 + 65536 * b6 + 16777216 * b7 else 0, false, [], false, false, bt b0 4, 0, 0, 0, 0, 0⟩) := by
  obtain ⟨C, hC⟩ : ∃ C, (bits .and .u8 b0 4 != 0) = C := ⟨_, rfl⟩
  have hC' : bt b0 4 = C := hC
  have hZ' : bt b0 2 = false := hZ
  rw [hC', hZ']
  clear hC' hZ'
  simp only [Bool.false_eq_true, if_false, if_true]
  go_enter Tryz.func71, Tryz.ntmps71
  go_wp2_with fail
  go_region_held3 (fun x => x.cell? ⟨w.heap.size, 0, none⟩ = some (.int .u8 (b0)) ∧ x.cell? ⟨w.heap.size, 1, none⟩ = some (.int .u8 (b1)) ∧ x.cell? ⟨w.heap.size, 2, none⟩ = some (.int .u8 (b2)) ∧ x.cell? ⟨w.heap.size, 3, none⟩ = some (.int .u8 (b3)) ∧ x.cell? ⟨w.heap.size, 4, none⟩ = some (.int .u8 (b4)) ∧ x.cell? ⟨w.heap.size, 5, none⟩ = some (.int .u8 (b5)) ∧ x.cell? ⟨w.heap.size, 6, none⟩ = some (.int .u8 (b6)) ∧ x.cell? ⟨w.heap.size, 7, none⟩ = some (.int .u8 (b7))) ((simp [go_sem]; done)) (first | ((go_at_call 103; with_reducible refine (placeIn_any _ _ _ _ _ _ _ _ h1 h2 _).mono ?_; rintro r w1 ⟨rfl, p1, p2, rfl⟩)))
  all_goals
    go_wp2_with fail
    exact bodyPost_ret (v := cmV (0) (b1 + 256 * b2) (b3) (false) (0) (false) none 0 0 (false) (false) (C) (0) (0) (0) (0) (0)) (by simp [results, Tryz.results71, go_sem, bt]) rfl ⟨none, 0, rfl, told_nil _ _, (by repeat (first | exact Below.refl _ _ | apply Below.drew | apply Below.al))⟩

#print axioms readSize_false
end Go.Proofs.YtimnpdegoehblaaGreatDoor
