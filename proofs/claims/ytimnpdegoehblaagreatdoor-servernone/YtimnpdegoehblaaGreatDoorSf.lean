/-
  The walks of the reading of what has no data.
-/
import Derived.Test.YtimnpdegoehblaaGreatDoorSc
import Derived.Test.YtimnpdegoehblaaGreatDoorSe
import Derived.Deep.RegionWith
namespace Go.Proofs.YtimnpdegoehblaaGreatDoor
open Go.RowKit

/-- How a reading ends: with a command, its data of its own. -/
def RPost (w : World) (x : Cm) (r : Ending) (w' : World) : Prop := ∃ a cap, r = .returned (x.v a x.d.length cap) ∧ Told w w' a x.d.length cap x.d ∧ Below w.heap.size w w'
theorem told_nil (w w' : World) : Told w w' none 0 0 [] := ⟨row_nil _, Nat.le_refl _, by decide, fun h => absurd h (by decide)⟩
/-- Is that bit on? -/
def bt (x m : Int) : Bool := bits .and .u8 x m != 0

set_option linter.unusedSimpArgs false in
set_option maxHeartbeats 4000000 in
set_option maxRecDepth 100000 in
theorem readBare_any (b0 b1 b2 b3 b4 b5 b6 b7 : Int) (w : World) :
    Calls Tryz.prog 77 #[arr8 b0 b1 b2 b3 b4 b5 b6 b7] w (RPost w ⟨0, 0, 0, false, 0, false, [], false, false, false, 0, 0, 0, 0, 0⟩) := by
  go_enter Tryz.func77, Tryz.ntmps77
  go_wp2_with fail
  exact bodyPost_ret (v := cmV (0) (0) (0) (false) (0) (false) none 0 0 (false) (false) (false) (0) (0) (0) (0) (0)) (by simp [results, Tryz.results77, go_sem, bt]) rfl ⟨none, 0, rfl, told_nil _ _, (by repeat (first | exact Below.refl _ _ | apply Below.drew | apply Below.al))⟩

set_option linter.unusedSimpArgs false in
set_option maxHeartbeats 4000000 in
set_option maxRecDepth 100000 in
theorem readPlace_any (b0 b1 b2 b3 b4 b5 b6 b7 : Int) (h1 : 0 ≤ b1 ∧ b1 < 256) (h2 : 0 ≤ b2 ∧ b2 < 256) (w : World) :
    Calls Tryz.prog 65 #[arr8 b0 b1 b2 b3 b4 b5 b6 b7] w (RPost w ⟨0, b1 + 256 * b2, b3, false, 0, false, [], false, false, false, 0, 0, 0, 0, 0⟩) := by
  go_enter Tryz.func65, Tryz.ntmps65
  go_wp2_with fail
  with_reducible refine (placeIn_any _ _ _ _ _ _ _ _ h1 h2 _).mono ?_
  rintro r w1 ⟨rfl, p1, p2, rfl⟩
  go_wp2_with fail
  exact bodyPost_ret (v := cmV (0) (b1 + 256 * b2) (b3) (false) (0) (false) none 0 0 (false) (false) (false) (0) (0) (0) (0) (0)) (by simp [results, Tryz.results65, go_sem, bt]) rfl ⟨none, 0, rfl, told_nil _ _, (by repeat (first | exact Below.refl _ _ | apply Below.drew | apply Below.al))⟩

set_option linter.unusedSimpArgs false in
set_option maxHeartbeats 4000000 in
set_option maxRecDepth 100000 in
theorem readToggle_any (b0 b1 b2 b3 b4 b5 b6 b7 : Int) (w : World) :
    Calls Tryz.prog 67 #[arr8 b0 b1 b2 b3 b4 b5 b6 b7] w (RPost w ⟨0, 0, 0, false, 0, false, [], bt b0 16, false, false, 0, 0, 0, 0, 0⟩) := by
  go_enter Tryz.func67, Tryz.ntmps67
  go_wp2_with fail
  exact bodyPost_ret (v := cmV (0) (0) (0) (false) (0) (false) none 0 0 (bt b0 16) (false) (false) (0) (0) (0) (0) (0)) (by simp [results, Tryz.results67, go_sem, bt]) rfl ⟨none, 0, rfl, told_nil _ _, (by repeat (first | exact Below.refl _ _ | apply Below.drew | apply Below.al))⟩

set_option linter.unusedSimpArgs false in
set_option maxHeartbeats 4000000 in
set_option maxRecDepth 100000 in
theorem readAck_any (b0 b1 b2 b3 b4 b5 b6 b7 : Int) (h1 : 0 ≤ b1 ∧ b1 < 256) (h2 : 0 ≤ b2 ∧ b2 < 256) (w : World) :
    Calls Tryz.prog 79 #[arr8 b0 b1 b2 b3 b4 b5 b6 b7] w (RPost w ⟨0, 0, 0, false, 0, false, [], false, false, false, b2, b1, 0, 0, 0⟩) := by
  go_enter Tryz.func79, Tryz.ntmps79
  go_wp2_with fail
  exact bodyPost_ret (v := cmV (0) (0) (0) (false) (0) (false) none 0 0 (false) (false) (false) (b2) (b1) (0) (0) (0)) (by simp [results, Tryz.results79, go_sem, bt]) rfl ⟨none, 0, rfl, told_nil _ _, (by repeat (first | exact Below.refl _ _ | apply Below.drew | apply Below.al))⟩

theorem and8 (x y : Int) (hx : 0 ≤ x ∧ x < 256) (hy : 0 ≤ y ∧ y < 256) : 0 ≤ bits .and .u8 x y ∧ bits .and .u8 x y ≤ y := by
  rw [u8_and x y hx.1 hx.2 hy.1 hy.2]
  have : x.toNat &&& y.toNat ≤ y.toNat := Nat.and_le_right
  omega

set_option linter.unusedSimpArgs false in
set_option maxHeartbeats 4000000 in
set_option maxRecDepth 100000 in
theorem readEnd_any (b0 b1 b2 b3 b4 b5 b6 b7 : Int) (h0 : 0 ≤ b0 ∧ b0 < 256) (h1 : 0 ≤ b1 ∧ b1 < 256) (h2 : 0 ≤ b2 ∧ b2 < 256) (w : World) :
    Calls Tryz.prog 73 #[arr8 b0 b1 b2 b3 b4 b5 b6 b7] w (RPost w ⟨0, 0, 0, false, 0, false, [], false, false, false, 0, 0, b1 + 256 * b2, bits .and .u8 (b0 / 4) 7, 0⟩) := by
  have ha := and8 (b0 / 4) 7 (by omega) (by omega)
  have ho := orI16 b1 b2 h1 h2
  obtain ⟨E, HE⟩ : ∃ E, Hid (bits .and .u8 (b0 / 4) 7 = E) := ⟨_, rfl⟩
  have HE2 := HE.out
  rw [HE2] at ha ⊢
  go_enter Tryz.func73, Tryz.ntmps73
  go_wp2_with fail
  exact bodyPost_ret (v := cmV (0) (0) (0) (false) (0) (false) none 0 0 (false) (false) (false) (0) (0) (b1 + 256 * b2) (E) (0)) (by simp [results, Tryz.results73, go_sem, bt]) rfl ⟨none, 0, rfl, told_nil _ _, (by repeat (first | exact Below.refl _ _ | apply Below.drew | apply Below.al))⟩

set_option linter.unusedSimpArgs false in
set_option maxHeartbeats 4000000 in
set_option maxRecDepth 100000 in
theorem readBlock_any (b0 b1 b2 b3 b4 b5 b6 b7 : Int) (h1 : 0 ≤ b1 ∧ b1 < 256) (h2 : 0 ≤ b2 ∧ b2 < 256) (h4 : 0 ≤ b4 ∧ b4 < 256) (w : World) :
    Calls Tryz.prog 75 #[arr8 b0 b1 b2 b3 b4 b5 b6 b7] w (RPost w ⟨0, b1 + 256 * b2, b3, false, 0, false, [], false, false, bt b0 4, b4, 0, 0, 0, 0⟩) := by
  have e4 : IntKind.i64.wrap b4 = b4 := by simp [IntKind.wrap, IntKind.bits, IntKind.signed]; omega
  go_enter Tryz.func75, Tryz.ntmps75
  go_wp2_with fail
  go_region_held3 (fun x => x.cell? ⟨w.heap.size, 0, none⟩ = some (.int .u8 (b0)) ∧ x.cell? ⟨w.heap.size, 1, none⟩ = some (.int .u8 (b1)) ∧ x.cell? ⟨w.heap.size, 2, none⟩ = some (.int .u8 (b2)) ∧ x.cell? ⟨w.heap.size, 3, none⟩ = some (.int .u8 (b3)) ∧ x.cell? ⟨w.heap.size, 4, none⟩ = some (.int .u8 (b4)) ∧ x.cell? ⟨w.heap.size, 5, none⟩ = some (.int .u8 (b5)) ∧ x.cell? ⟨w.heap.size, 6, none⟩ = some (.int .u8 (b6)) ∧ x.cell? ⟨w.heap.size, 7, none⟩ = some (.int .u8 (b7))) ((simp [go_sem]; done)) (first | ((go_at_call 103; with_reducible refine (placeIn_any _ _ _ _ _ _ _ _ h1 h2 _).mono ?_; rintro r w1 ⟨rfl, p1, p2, rfl⟩)))
  all_goals
    go_wp2_with fail
    exact bodyPost_ret (v := cmV (0) (b1 + 256 * b2) (b3) (false) (0) (false) none 0 0 (false) (false) (bt b0 4) (b4) (0) (0) (0) (0)) (by simp [results, Tryz.results75, go_sem, bt]) rfl ⟨none, 0, rfl, told_nil _ _, (by repeat (first | exact Below.refl _ _ | apply Below.drew | apply Below.al))⟩

set_option linter.unusedSimpArgs false in
set_option maxHeartbeats 4000000 in
set_option maxRecDepth 100000 in
theorem readStop_any (b0 b1 b2 b3 b4 b5 b6 b7 : Int) (h1 : 0 ≤ b1 ∧ b1 < 256) (h2 : 0 ≤ b2 ∧ b2 < 256) (h4 : 0 ≤ b4 ∧ b4 < 256) (h5 : 0 ≤ b5 ∧ b5 < 256) (h6 : 0 ≤ b6 ∧ b6 < 256) (h7 : 0 ≤ b7 ∧ b7 < 256) (w : World) :
    Calls Tryz.prog 69 #[arr8 b0 b1 b2 b3 b4 b5 b6 b7] w (RPost w ⟨0, b1 + 256 * b2, b3, false, 0, false, [], false, false, false, 0, 0, 0, 0, b4 + 256 * b5 + 65536 * b6 + 16777216 * b7⟩) := by
  go_enter Tryz.func69, Tryz.ntmps69
  go_wp2_with fail
  go_region_held3 (fun x => x.cell? ⟨w.heap.size, 0, none⟩ = some (.int .u8 (b0)) ∧ x.cell? ⟨w.heap.size, 1, none⟩ = some (.int .u8 (b1)) ∧ x.cell? ⟨w.heap.size, 2, none⟩ = some (.int .u8 (b2)) ∧ x.cell? ⟨w.heap.size, 3, none⟩ = some (.int .u8 (b3)) ∧ x.cell? ⟨w.heap.size, 4, none⟩ = some (.int .u8 (b4)) ∧ x.cell? ⟨w.heap.size, 5, none⟩ = some (.int .u8 (b5)) ∧ x.cell? ⟨w.heap.size, 6, none⟩ = some (.int .u8 (b6)) ∧ x.cell? ⟨w.heap.size, 7, none⟩ = some (.int .u8 (b7))) ((simp [go_sem]; done)) (first | ((go_at_call 103; with_reducible refine (placeIn_any _ _ _ _ _ _ _ _ h1 h2 _).mono ?_; rintro r w1 ⟨rfl, p1, p2, rfl⟩)) | ((go_at_call 104; with_reducible refine (numberIn_any _ _ _ _ _ _ _ _ h4 h5 h6 h7 _).mono ?_; rintro r w1 ⟨rfl, q1, rfl⟩)))
  all_goals
    go_wp2_with fail
    exact bodyPost_ret (v := cmV (0) (b1 + 256 * b2) (b3) (false) (0) (false) none 0 0 (false) (false) (false) (0) (0) (0) (0) (b4 + 256 * b5 + 65536 * b6 + 16777216 * b7)) (by simp [results, Tryz.results69, go_sem, bt]) rfl ⟨none, 0, rfl, told_nil _ _, (by repeat (first | exact Below.refl _ _ | apply Below.drew | apply Below.al))⟩

#print axioms readBare_any
#print axioms readPlace_any
#print axioms readToggle_any
#print axioms readAck_any
#print axioms readEnd_any
#print axioms readBlock_any
#print axioms readStop_any
end Go.Proofs.YtimnpdegoehblaaGreatDoor
