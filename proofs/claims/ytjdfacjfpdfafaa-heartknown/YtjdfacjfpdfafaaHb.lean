/-
  The walks of beaters: NewBeater, Set, Due, Tick, the program's and the document's.
-/
import Derived.Test.YtjdfacjfpdfafaaHa
namespace Go.Proofs.Ytjdfacjfpdfafaa
open Go.RowKit

/-- A beater's cells: its address, its period, when it is due. -/
abbrev bC (a P n : Int) : Array Value := #[.int .u8 a, .int .i64 P, .int .i64 n]
abbrev pt (p : Nat) : Value := .pointer (some ⟨p, 0, none⟩)

set_option linter.unusedSimpArgs false in
set_option maxHeartbeats 4000000 in
set_option maxRecDepth 100000 in
theorem newB_bad (a : Int) (h : ndB a = false) (w : World) : Calls Try.prog 9 #[.int .u8 a] w fun e w' => e = .returned (.tuple #[.pointer none, .int .i64 2]) ∧ w' = w := by
  have IN := fun W => isNode_any a W
  rw [h] at IN
  go_enter Try.func9, Try.ntmps9
  go_wp2_with fail
  refine (IN _).mono ?_
  rintro e w1 ⟨rfl, rfl⟩
  go_wp2_with fail
  exact bodyPost_ret (v := .tuple #[.pointer none, .int .i64 2]) (by simp [results, Try.results9, go_sem]) rfl ⟨rfl, rfl⟩
set_option linter.unusedSimpArgs false in
set_option maxHeartbeats 4000000 in
set_option maxRecDepth 100000 in
theorem newB_ok (a : Int) (h : ndB a = true) (w : World) : Calls Try.prog 9 #[.int .u8 a] w fun e w' => e = .returned (.tuple #[pt w.heap.size, .int .i64 0]) ∧ w' = w.alloc (.cells (bC a 0 0) 76) := by
  have IN := fun W => isNode_any a W
  rw [h] at IN
  go_enter Try.func9, Try.ntmps9
  go_wp2_with fail
  refine (IN _).mono ?_
  rintro e w1 ⟨rfl, rfl⟩
  go_wp2_with fail
  exact bodyPost_ret (v := .tuple #[pt w1.heap.size, .int .i64 0]) (by simp [results, Try.results9, go_sem]) rfl ⟨rfl, rfl⟩
set_option linter.unusedSimpArgs false in
set_option maxHeartbeats 4000000 in
set_option maxRecDepth 100000 in
theorem newU_bad (a : Int) (h : ndB a = false) (w : World) : Calls Try.prog 10 #[.int .u8 a] w fun e w' => e = .returned (.tuple #[.pointer none, .int .i64 2]) ∧ w' = w := by
  have h' := ndB_no h
  by_cases h0 : a < 1
  · go_enter Try.func10, Try.ntmps10
    go_wp2_with fail
    exact bodyPost_ret (v := .tuple #[.pointer none, .int .i64 2]) (by simp [results, Try.results10, go_sem]) rfl ⟨rfl, rfl⟩
  · have h1 : 127 < a := by omega
    clear h' h
    go_enter Try.func10, Try.ntmps10
    go_wp2_with fail
    exact bodyPost_ret (v := .tuple #[.pointer none, .int .i64 2]) (by simp [results, Try.results10, go_sem]) rfl ⟨rfl, rfl⟩
set_option linter.unusedSimpArgs false in
set_option maxHeartbeats 4000000 in
set_option maxRecDepth 100000 in
theorem newU_ok (a : Int) (h : ndB a = true) (w : World) : Calls Try.prog 10 #[.int .u8 a] w fun e w' => e = .returned (.tuple #[pt w.heap.size, .int .i64 0]) ∧ w' = w.alloc (.cells (bC a 0 0) 43) := by
  have h0 : ¬ a < 1 := by have := ndB_of h; omega
  have h1 : ¬ 127 < a := by have := ndB_of h; omega
  clear h
  go_enter Try.func10, Try.ntmps10
  go_wp2_with fail
  exact bodyPost_ret (v := .tuple #[pt w.heap.size, .int .i64 0]) (by simp [results, Try.results10, go_sem]) rfl ⟨rfl, rfl⟩

theorem put2 {w : World} {p : Nat} {a P n : Int} {T : TypeId} (hp : w.heap[p]? = some (.cells (bC a P n) T (0, 0))) (x y : Int) : ((w.setCell ⟨p, 1, none⟩ (.int .i64 x)).setCell ⟨p, 2, none⟩ (.int .i64 y)).heap[p]? = some (.cells (bC a x y) T (0, 0)) ∧ Kp [p] w ((w.setCell ⟨p, 1, none⟩ (.int .i64 x)).setCell ⟨p, 2, none⟩ (.int .i64 y)) := by
  refine ⟨?_, ((Kp.refl _ _).set _ _ (.inl (by simp))).set _ _ (.inl (by simp))⟩
  rw [heap_setCell_same _ _ _ _ _ _ (heap_setCell_same _ _ _ _ _ _ hp)]
  rfl
theorem put1 {w : World} {p : Nat} {a P n : Int} {T : TypeId} (hp : w.heap[p]? = some (.cells (bC a P n) T (0, 0))) (y : Int) : (w.setCell ⟨p, 2, none⟩ (.int .i64 y)).heap[p]? = some (.cells (bC a P y) T (0, 0)) ∧ Kp [p] w (w.setCell ⟨p, 2, none⟩ (.int .i64 y)) := by
  refine ⟨?_, (Kp.refl _ _).set _ _ (.inl (by simp))⟩
  rw [heap_setCell_same _ _ _ _ _ _ hp]
  rfl
set_option linter.unusedSimpArgs false in
set_option maxHeartbeats 4000000 in
set_option maxRecDepth 100000 in
theorem setB_no (p : Nat) (x y : Int) (h : tmB x = false ∨ tmB y = false) (w : World) : Calls Try.prog 11 #[pt p, .int .i64 x, .int .i64 y] w fun e w' => e = .returned (.int .i64 2) ∧ w' = w := by
  have I1 := fun W => isTime_any x W
  have I2 := fun W => isTime_any y W
  cases hx : tmB x with
  | false =>
    rw [hx] at I1
    go_enter Try.func11, Try.ntmps11
    go_wp2_with fail
    refine (I1 _).mono ?_
    rintro e w1 ⟨rfl, rfl⟩
    go_wp2_with fail
    go_ret
    exact ⟨rfl, rfl⟩
  | true =>
    have hy : tmB y = false := by rcases h with h | h; (rw [hx] at h; cases h); exact h
    rw [hx] at I1
    rw [hy] at I2
    clear h
    go_enter Try.func11, Try.ntmps11
    go_wp2_with fail
    refine (I1 _).mono ?_
    rintro e w1 ⟨rfl, rfl⟩
    go_wp2_with fail
    refine (I2 _).mono ?_
    rintro e w1 ⟨rfl, rfl⟩
    go_wp2_with fail
    go_ret
    exact ⟨rfl, rfl⟩
set_option linter.unusedSimpArgs false in
set_option maxHeartbeats 4000000 in
set_option maxRecDepth 100000 in
theorem setB_ok {w : World} {p : Nat} {a P n : Int} (hp : w.heap[p]? = some (.cells (bC a P n) 76 (0, 0))) (x y : Int) (hx : tmB x = true) (hy : tmB y = true) : Calls Try.prog 11 #[pt p, .int .i64 x, .int .i64 y] w fun e w' => e = .returned (.int .i64 0) ∧ w'.heap[p]? = some (.cells (bC a x y) 76 (0, 0)) ∧ Kp [p] w w' := by
  have I1 := fun W => isTime_any x W
  have I2 := fun W => isTime_any y W
  rw [hx] at I1
  rw [hy] at I2
  have PU := put2 hp x y
  have PH : Hid _ := PU
  have c1 : w.cell? ⟨p, 1, none⟩ = some (.int .i64 P) := by rw [cell_of_row w _ 1 _ _ _ hp]; rfl
  have c2 : w.cell? ⟨p, 2, none⟩ = some (.int .i64 n) := by rw [cell_of_row w _ 2 _ _ _ hp]; rfl
  have z1 := froz11 w p 1 _ _ hp
  have z2 := froz11 w p 2 _ _ hp
  clear hx hy hp PU
  go_enter Try.func11, Try.ntmps11
  go_wp2_with fail
  refine (I1 _).mono ?_
  rintro e w1 ⟨rfl, rfl⟩
  go_wp2_with fail
  refine (I2 _).mono ?_
  rintro e w1 ⟨rfl, rfl⟩
  go_wp2_with fail
  go_ret
  exact ⟨rfl, PH.out⟩
set_option linter.unusedSimpArgs false in
set_option maxHeartbeats 4000000 in
set_option maxRecDepth 100000 in
theorem setU_no (p : Nat) (x y : Int) (h : tmB x = false ∨ tmB y = false) (w : World) : Calls Try.prog 12 #[pt p, .int .i64 x, .int .i64 y] w fun e w' => e = .returned (.int .i64 2) ∧ w' = w := by
  have I1 := fun W => time_any x W
  have I2 := fun W => time_any y W
  cases hx : tmB x with
  | false =>
    rw [hx] at I1
    go_enter Try.func12, Try.ntmps12
    go_wp2_with fail
    refine (I1 _).mono ?_
    rintro e w1 ⟨rfl, rfl⟩
    go_wp2_with fail
    go_ret
    exact ⟨rfl, rfl⟩
  | true =>
    have hy : tmB y = false := by rcases h with h | h; (rw [hx] at h; cases h); exact h
    rw [hx] at I1
    rw [hy] at I2
    clear h
    go_enter Try.func12, Try.ntmps12
    go_wp2_with fail
    refine (I1 _).mono ?_
    rintro e w1 ⟨rfl, rfl⟩
    go_wp2_with fail
    refine (I2 _).mono ?_
    rintro e w1 ⟨rfl, rfl⟩
    go_wp2_with fail
    go_ret
    exact ⟨rfl, rfl⟩
set_option linter.unusedSimpArgs false in
set_option maxHeartbeats 4000000 in
set_option maxRecDepth 100000 in
theorem setU_ok {w : World} {p : Nat} {a P n : Int} (hp : w.heap[p]? = some (.cells (bC a P n) 43 (0, 0))) (x y : Int) (hx : tmB x = true) (hy : tmB y = true) : Calls Try.prog 12 #[pt p, .int .i64 x, .int .i64 y] w fun e w' => e = .returned (.int .i64 0) ∧ w'.heap[p]? = some (.cells (bC a x y) 43 (0, 0)) ∧ Kp [p] w w' := by
  have I1 := fun W => time_any x W
  have I2 := fun W => time_any y W
  rw [hx] at I1
  rw [hy] at I2
  have PU := put2 hp x y
  have PH : Hid _ := PU
  have c1 : w.cell? ⟨p, 1, none⟩ = some (.int .i64 P) := by rw [cell_of_row w _ 1 _ _ _ hp]; rfl
  have c2 : w.cell? ⟨p, 2, none⟩ = some (.int .i64 n) := by rw [cell_of_row w _ 2 _ _ _ hp]; rfl
  have z1 := froz11 w p 1 _ _ hp
  have z2 := froz11 w p 2 _ _ hp
  clear hx hy hp PU
  go_enter Try.func12, Try.ntmps12
  go_wp2_with fail
  refine (I1 _).mono ?_
  rintro e w1 ⟨rfl, rfl⟩
  go_wp2_with fail
  refine (I2 _).mono ?_
  rintro e w1 ⟨rfl, rfl⟩
  go_wp2_with fail
  go_ret
  exact ⟨rfl, PH.out⟩
set_option linter.unusedSimpArgs false in
set_option maxHeartbeats 4000000 in
set_option maxRecDepth 100000 in
theorem due_no {w : World} {p : Nat} {a n : Int} (hp : w.heap[p]? = some (.cells (bC a 0 n) 76 (0, 0))) : Calls Try.prog 15 #[pt p] w fun e w' => e = .returned (.tuple #[.int .i64 0, .bool false]) ∧ w' = w := by
  have c1 : w.cell? ⟨p, 1, none⟩ = some (.int .i64 0) := by rw [cell_of_row w _ 1 _ _ _ hp]; rfl
  clear hp
  go_enter Try.func15, Try.ntmps15
  go_wp2_with fail
  go_ret2
  exact ⟨rfl, rfl⟩
set_option linter.unusedSimpArgs false in
set_option maxHeartbeats 4000000 in
set_option maxRecDepth 100000 in
theorem due_yes {w : World} {p : Nat} {a P n : Int} (hp : w.heap[p]? = some (.cells (bC a P n) 76 (0, 0))) (h0 : ¬ P = 0) : Calls Try.prog 15 #[pt p] w fun e w' => e = .returned (.tuple #[.int .i64 n, .bool true]) ∧ w' = w := by
  have c1 : w.cell? ⟨p, 1, none⟩ = some (.int .i64 P) := by rw [cell_of_row w _ 1 _ _ _ hp]; rfl
  have c2 : w.cell? ⟨p, 2, none⟩ = some (.int .i64 n) := by rw [cell_of_row w _ 2 _ _ _ hp]; rfl
  clear hp
  go_enter Try.func15, Try.ntmps15
  go_wp2_with fail
  go_ret2
  exact ⟨rfl, rfl⟩
set_option linter.unusedSimpArgs false in
set_option maxHeartbeats 4000000 in
set_option maxRecDepth 100000 in
theorem nil_due (w : World) : Calls Try.prog 15 #[.pointer none] w fun e w' => e = .returned (.tuple #[.int .i64 0, .bool false]) ∧ w' = w := by
  go_enter Try.func15, Try.ntmps15
  go_wp2_with fail
  go_ret2
  exact ⟨rfl, rfl⟩
set_option linter.unusedSimpArgs false in
set_option maxHeartbeats 4000000 in
set_option maxRecDepth 100000 in
theorem nil_set (x y : Int) (w : World) : Calls Try.prog 11 #[.pointer none, .int .i64 x, .int .i64 y] w fun e w' => e = .returned (.int .i64 1) ∧ w' = w := by
  go_enter Try.func11, Try.ntmps11
  go_wp2_with fail
  go_ret
  exact ⟨rfl, rfl⟩
/-- No frame, and false. -/
abbrev noF : Value := .tuple #[frV 0 0 0 0 0 0 0 0 0 0 false, .bool false]
set_option linter.unusedSimpArgs false in
set_option maxHeartbeats 4000000 in
set_option maxRecDepth 100000 in
theorem nil_tick (x s : Int) (w : World) : Calls Try.prog 13 #[.pointer none, .int .i64 x, .int .u8 s] w fun e w' => e = .returned noF ∧ Below w.heap.size w w' := by
  have DU := fun W => nil_due W
  go_enter Try.func13, Try.ntmps13
  go_wp2_with fail
  refine (DU _).mono ?_
  rintro e w1 ⟨rfl, rfl⟩
  go_wp2_with fail
  exact bodyPost_ret (v := noF) (by simp [results, Try.results13, go_sem]) rfl ⟨rfl, (by repeat (first | exact Below.refl _ _ | apply Below.drew | apply Below.al))⟩
#print axioms setU_ok
end Go.Proofs.Ytjdfacjfpdfafaa
