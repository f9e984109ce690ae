/-
  The walks of producers: New, Start, Stop, Due, the program's and the document's.
-/
import Derived.Test.YtlijkgkkoahajaaYd
namespace Go.Proofs.Ytlijkgkkoahajaa
open Go.RowKit

/-- A producer's cells. -/
abbrev prC (id top P : Int) (g : Bool) (due n : Int) : Array Value := #[.int .u16 id, .int .u8 top, .int .i64 P, .bool g, .int .i64 due, .int .u8 n]
/-- The document's. -/
abbrev urC (id P top : Int) (g : Bool) (due n : Int) : Array Value := #[.int .u16 id, .int .i64 P, .int .u8 top, .bool g, .int .i64 due, .int .u8 n]
/-- May such a producer be? -/
def npB (id P top : Int) : Bool := (decide (id ≤ 2047) && tpB top) && (decide (1 ≤ P) && decide (P ≤ 1099511627776))

set_option linter.unusedSimpArgs false in
set_option maxHeartbeats 4000000 in
set_option maxRecDepth 100000 in
theorem newP_bad (id P top : Int) (h : npB id P top = false) (w : World) : Calls Try.prog 10 #[.int .u16 id, .int .i64 P, .int .u8 top] w fun e w' => e = .returned (.tuple #[.pointer none, .int .i64 2]) ∧ Below w.heap.size w w' := by
  obtain ⟨b, hb⟩ : ∃ b, b = (decide (id ≤ 2047) && tpB top) := ⟨_, rfl⟩
  have MB := fun W => may_any id top W
  rw [← hb] at MB
  have h' : b = false ∨ P < 1 ∨ 1099511627776 < P := by
    unfold npB at h; rw [← hb] at h; cases b <;> simp at h ⊢; omega
  clear hb h
  cases b with
  | false =>
    clear h'
    go_enter Try.func10, Try.ntmps10
    go_wp2_with fail
    refine (MB _).mono ?_
    rintro e w1 ⟨rfl, hb⟩
    have B1 : Below w.heap.size w w1 := Below.andThen (by repeat (first | exact Below.refl _ _ | apply Below.drew | apply Below.al)) hb
    clear hb MB
    go_wp2_with fail
    go_ret2
    exact ⟨rfl, B1⟩
  | true =>
    by_cases h1 : P < 1
    · clear h'
      go_enter Try.func10, Try.ntmps10
      go_wp2_with fail
      refine (MB _).mono ?_
      rintro e w1 ⟨rfl, hb⟩
      have B1 : Below w.heap.size w w1 := Below.andThen (by repeat (first | exact Below.refl _ _ | apply Below.drew | apply Below.al)) hb
      clear hb MB
      go_wp2_with fail
      go_ret2
      exact ⟨rfl, B1⟩
    · have h2 : 1099511627776 < P := by rcases h' with h | h | h <;> first | cases h | omega
      have IT := fun W => isTime_any P W
      rw [tmB_f (.inr h2)] at IT
      clear h'
      go_enter Try.func10, Try.ntmps10
      go_wp2_with fail
      refine (MB _).mono ?_
      rintro e w1 ⟨rfl, hb⟩
      have B1 : Below w.heap.size w w1 := Below.andThen (by repeat (first | exact Below.refl _ _ | apply Below.drew | apply Below.al)) hb
      clear hb MB
      go_wp2_with fail
      refine (IT _).mono ?_
      rintro e w2 ⟨rfl, rfl⟩
      go_wp2_with fail
      go_ret2
      exact ⟨rfl, B1⟩

theorem npB_ok {id P top : Int} (h : npB id P top = true) : id ≤ 2047 ∧ tpB top = true ∧ 1 ≤ P ∧ P ≤ 1099511627776 := by
  unfold npB at h
  simp at h
  exact ⟨h.1.1, h.1.2, h.2.1, h.2.2⟩

set_option linter.unusedSimpArgs false in
set_option maxHeartbeats 4000000 in
set_option maxRecDepth 100000 in
theorem newP_ok (id P top : Int) (h : npB id P top = true) (w : World) : Calls Try.prog 10 #[.int .u16 id, .int .i64 P, .int .u8 top] w fun e w' => (∃ p, e = .returned (.tuple #[.pointer (some ⟨p, 0, none⟩), .int .i64 0]) ∧ w.heap.size ≤ p ∧ w'.heap[p]? = some (.cells (prC id top P false 0 0) 81 (0, 0))) ∧ Below w.heap.size w w' := by
  obtain ⟨hi, ht, h1, h2⟩ := npB_ok h
  clear h
  have MB := fun W => may_any id top W
  rw [show (decide (id ≤ 2047) && tpB top) = true from by simp [hi, ht]] at MB
  have IT := fun W => isTime_any P W
  rw [tmB_t (by omega) h2] at IT
  have h3 : ¬ P < 1 := by omega
  clear ht
  go_enter Try.func10, Try.ntmps10
  go_wp2_with fail
  refine (MB _).mono ?_
  rintro e w1 ⟨rfl, hb⟩
  have B1 : Below w.heap.size w w1 := Below.andThen (by repeat (first | exact Below.refl _ _ | apply Below.drew | apply Below.al)) hb
  have c0 : w1.cell? ⟨w.heap.size, 0, none⟩ = some (.int .u16 id) := cl11 hb (by simp [go_sem])
  have c1 : w1.cell? ⟨w.heap.size, 1, none⟩ = some (.int .u8 top) := cl11 hb (by simp [go_sem])
  have lt : w.heap.size < w1.heap.size := by have := hb.size; simp at this; omega
  clear hb MB
  go_wp2_with fail
  refine (IT _).mono ?_
  rintro e w2 ⟨rfl, rfl⟩
  go_wp2_with fail
  go_ret2
  exact ⟨⟨_, rfl, by omega, heap_new _ _⟩, Below.al B1 _⟩

set_option linter.unusedSimpArgs false in
set_option maxHeartbeats 4000000 in
set_option maxRecDepth 100000 in
theorem newU_bad (id P top : Int) (h : npB id P top = false) (w : World) : Calls Try.prog 11 #[.int .u16 id, .int .i64 P, .int .u8 top] w fun e w' => e = .returned (.tuple #[.pointer none, .int .i64 2]) ∧ w' = w := by
  by_cases h0 : 2047 < id
  · go_enter Try.func11, Try.ntmps11
    go_wp2_with fail
    go_ret2
    exact ⟨rfl, rfl⟩
  by_cases h1 : P < 1
  · go_enter Try.func11, Try.ntmps11
    go_wp2_with fail
    go_ret2
    exact ⟨rfl, rfl⟩
  have IT := fun W => time_any P W
  by_cases h2 : 1099511627776 < P
  · rw [tmB_f (.inr h2)] at IT
    go_enter Try.func11, Try.ntmps11
    go_wp2_with fail
    refine (IT _).mono ?_
    rintro e w2 ⟨rfl, rfl⟩
    go_wp2_with fail
    go_ret2
    exact ⟨rfl, rfl⟩
  rw [tmB_t (by omega) (by omega)] at IT
  have TT := fun W => top_any top W
  rw [show tpB top = false from by unfold npB at h; simp at h; cases hq : tpB top; rfl; have := h (by omega) hq; omega] at TT
  clear h
  go_enter Try.func11, Try.ntmps11
  go_wp2_with fail
  refine (IT _).mono ?_
  rintro e w2 ⟨rfl, rfl⟩
  go_wp2_with fail
  refine (TT _).mono ?_
  rintro e w2 ⟨rfl, rfl⟩
  go_wp2_with fail
  go_ret2
  exact ⟨rfl, rfl⟩

set_option linter.unusedSimpArgs false in
set_option maxHeartbeats 4000000 in
set_option maxRecDepth 100000 in
theorem newU_ok (id P top : Int) (h : npB id P top = true) (w : World) : Calls Try.prog 11 #[.int .u16 id, .int .i64 P, .int .u8 top] w fun e w' => (∃ p, e = .returned (.tuple #[.pointer (some ⟨p, 0, none⟩), .int .i64 0]) ∧ w.heap.size ≤ p ∧ w'.heap[p]? = some (.cells (urC id P top false 0 0) 36 (0, 0))) ∧ Below w.heap.size w w' := by
  obtain ⟨hi, ht, h1, h2⟩ := npB_ok h
  clear h
  have h0 : ¬ 2047 < id := by omega
  have h3 : ¬ P < 1 := by omega
  have IT := fun W => time_any P W
  have TT := fun W => top_any top W
  rw [tmB_t (by omega) h2] at IT
  rw [ht] at TT
  clear ht
  go_enter Try.func11, Try.ntmps11
  go_wp2_with fail
  refine (IT _).mono ?_
  rintro e w2 ⟨rfl, rfl⟩
  go_wp2_with fail
  refine (TT _).mono ?_
  rintro e w2 ⟨rfl, rfl⟩
  go_wp2_with fail
  go_ret2
  exact ⟨⟨_, rfl, Nat.le_refl _, heap_new _ _⟩, (by repeat (first | exact Below.refl _ _ | apply Below.drew | apply Below.al))⟩

set_option linter.unusedSimpArgs false in
set_option maxHeartbeats 4000000 in
set_option maxRecDepth 100000 in
theorem start_no (p : Nat) (now : Int) (hn : tmB now = false) (w : World) : Calls Try.prog 12 #[.pointer (some ⟨p, 0, none⟩), .int .i64 now] w fun e w' => e = .returned (.int .i64 2) ∧ w' = w := by
  have IT := fun W => isTime_any now W
  rw [hn] at IT
  go_enter Try.func12, Try.ntmps12
  go_wp2_with fail
  refine (IT _).mono ?_
  rintro e w2 ⟨rfl, rfl⟩
  go_wp2_with fail
  go_ret
  exact ⟨rfl, rfl⟩

set_option linter.unusedSimpArgs false in
set_option maxHeartbeats 4000000 in
set_option maxRecDepth 100000 in
theorem start_ok (p : Nat) (id top P : Int) (g : Bool) (due n now : Int) (hn : tmB now = true) (h1 : 1 ≤ P) (h2 : P ≤ 1099511627776) (w : World) (hp : w.heap[p]? = some (.cells (prC id top P g due n) 81 (0, 0))) : Calls Try.prog 12 #[.pointer (some ⟨p, 0, none⟩), .int .i64 now] w fun e w' => e = .returned (.int .i64 0) ∧ w'.heap[p]? = some (.cells (prC id top P true (now + P) 1) 81 (0, 0)) ∧ Kp [p] w w' := by
  have IT := fun W => isTime_any now W
  rw [hn] at IT
  obtain ⟨t0, t1⟩ := tmB_of hn
  clear hn
  have c0 : w.cell? ⟨p, 0, none⟩ = some (.int .u16 id) := by rw [cell_of_row w _ 0 _ _ _ hp]; rfl
  have z0 := froz11 w p 0 _ _ hp
  have c1 : w.cell? ⟨p, 1, none⟩ = some (.int .u8 top) := by rw [cell_of_row w _ 1 _ _ _ hp]; rfl
  have z1 := froz11 w p 1 _ _ hp
  have c2 : w.cell? ⟨p, 2, none⟩ = some (.int .i64 P) := by rw [cell_of_row w _ 2 _ _ _ hp]; rfl
  have z2 := froz11 w p 2 _ _ hp
  have c3 : w.cell? ⟨p, 3, none⟩ = some (.bool g) := by rw [cell_of_row w _ 3 _ _ _ hp]; rfl
  have z3 := froz11 w p 3 _ _ hp
  have c4 : w.cell? ⟨p, 4, none⟩ = some (.int .i64 due) := by rw [cell_of_row w _ 4 _ _ _ hp]; rfl
  have z4 := froz11 w p 4 _ _ hp
  have c5 : w.cell? ⟨p, 5, none⟩ = some (.int .u8 n) := by rw [cell_of_row w _ 5 _ _ _ hp]; rfl
  have z5 := froz11 w p 5 _ _ hp
  have hw : IntKind.i64.wrap (now + P) = now + P := w64 _ (by omega) (by omega)
  have h3 : ¬ P < 1 := by omega
  have HP : Hid (w.heap[p]? = some (.cells (prC id top P g due n) 81 (0, 0))) := hp
  clear hp
  go_enter Try.func12, Try.ntmps12
  go_wp2_with fail
  refine (IT _).mono ?_
  rintro e w2 ⟨rfl, rfl⟩
  go_wp2_with fail
  go_ret
  exact ⟨rfl, heap_setCell_same _ _ _ _ _ _ (heap_setCell_same _ _ _ _ _ _ (heap_setCell_same _ _ _ _ _ _ HP.out)), Kp.set (Kp.set (Kp.set (Kp.refl _ _) _ _ (.inl (by simp))) _ _ (.inl (by simp))) _ _ (.inl (by simp))⟩

set_option linter.unusedSimpArgs false in
set_option maxHeartbeats 4000000 in
set_option maxRecDepth 100000 in
theorem ustart_no (p : Nat) (now : Int) (hn : tmB now = false) (w : World) : Calls Try.prog 13 #[.pointer (some ⟨p, 0, none⟩), .int .i64 now] w fun e w' => e = .returned (.int .i64 2) ∧ w' = w := by
  have IT := fun W => time_any now W
  rw [hn] at IT
  go_enter Try.func13, Try.ntmps13
  go_wp2_with fail
  refine (IT _).mono ?_
  rintro e w2 ⟨rfl, rfl⟩
  go_wp2_with fail
  go_ret
  exact ⟨rfl, rfl⟩

set_option linter.unusedSimpArgs false in
set_option maxHeartbeats 4000000 in
set_option maxRecDepth 100000 in
theorem ustart_ok (p : Nat) (id P top : Int) (g : Bool) (due n now : Int) (hn : tmB now = true) (h1 : 1 ≤ P) (h2 : P ≤ 1099511627776) (w : World) (hp : w.heap[p]? = some (.cells (urC id P top g due n) 36 (0, 0))) : Calls Try.prog 13 #[.pointer (some ⟨p, 0, none⟩), .int .i64 now] w fun e w' => e = .returned (.int .i64 0) ∧ w'.heap[p]? = some (.cells (urC id P top true (now + P) 1) 36 (0, 0)) ∧ Kp [p] w w' := by
  have IT := fun W => time_any now W
  rw [hn] at IT
  obtain ⟨t0, t1⟩ := tmB_of hn
  clear hn
  have c0 : w.cell? ⟨p, 0, none⟩ = some (.int .u16 id) := by rw [cell_of_row w _ 0 _ _ _ hp]; rfl
  have z0 := froz11 w p 0 _ _ hp
  have c1 : w.cell? ⟨p, 1, none⟩ = some (.int .i64 P) := by rw [cell_of_row w _ 1 _ _ _ hp]; rfl
  have z1 := froz11 w p 1 _ _ hp
  have c2 : w.cell? ⟨p, 2, none⟩ = some (.int .u8 top) := by rw [cell_of_row w _ 2 _ _ _ hp]; rfl
  have z2 := froz11 w p 2 _ _ hp
  have c3 : w.cell? ⟨p, 3, none⟩ = some (.bool g) := by rw [cell_of_row w _ 3 _ _ _ hp]; rfl
  have z3 := froz11 w p 3 _ _ hp
  have c4 : w.cell? ⟨p, 4, none⟩ = some (.int .i64 due) := by rw [cell_of_row w _ 4 _ _ _ hp]; rfl
  have z4 := froz11 w p 4 _ _ hp
  have c5 : w.cell? ⟨p, 5, none⟩ = some (.int .u8 n) := by rw [cell_of_row w _ 5 _ _ _ hp]; rfl
  have z5 := froz11 w p 5 _ _ hp
  have hw : IntKind.i64.wrap (now + P) = now + P := w64 _ (by omega) (by omega)
  have HP : Hid (w.heap[p]? = some (.cells (urC id P top g due n) 36 (0, 0))) := hp
  clear hp
  go_enter Try.func13, Try.ntmps13
  go_wp2_with fail
  refine (IT _).mono ?_
  rintro e w2 ⟨rfl, rfl⟩
  go_wp2_with fail
  go_ret
  exact ⟨rfl, heap_setCell_same _ _ _ _ _ _ (heap_setCell_same _ _ _ _ _ _ (heap_setCell_same _ _ _ _ _ _ HP.out)), Kp.set (Kp.set (Kp.set (Kp.refl _ _) _ _ (.inl (by simp))) _ _ (.inl (by simp))) _ _ (.inl (by simp))⟩

set_option linter.unusedSimpArgs false in
set_option maxHeartbeats 4000000 in
set_option maxRecDepth 100000 in
theorem stop_nil (w : World) : Calls Try.prog 14 #[.pointer none] w fun e w' => e = .returned (.tuple #[]) ∧ w' = w := by
  go_enter Try.func14, Try.ntmps14
  go_wp2_with fail
  go_end0
  exact ⟨rfl, rfl⟩
set_option linter.unusedSimpArgs false in
set_option maxHeartbeats 4000000 in
set_option maxRecDepth 100000 in
theorem stop_any (p : Nat) (id top P : Int) (g : Bool) (due n : Int) (w : World) (hp : w.heap[p]? = some (.cells (prC id top P g due n) 81 (0, 0))) : Calls Try.prog 14 #[.pointer (some ⟨p, 0, none⟩)] w fun e w' => e = .returned (.tuple #[]) ∧ w'.heap[p]? = some (.cells (prC id top P false due n) 81 (0, 0)) ∧ Kp [p] w w' := by
  have c0 : w.cell? ⟨p, 0, none⟩ = some (.int .u16 id) := by rw [cell_of_row w _ 0 _ _ _ hp]; rfl
  have z0 := froz11 w p 0 _ _ hp
  have c1 : w.cell? ⟨p, 1, none⟩ = some (.int .u8 top) := by rw [cell_of_row w _ 1 _ _ _ hp]; rfl
  have z1 := froz11 w p 1 _ _ hp
  have c2 : w.cell? ⟨p, 2, none⟩ = some (.int .i64 P) := by rw [cell_of_row w _ 2 _ _ _ hp]; rfl
  have z2 := froz11 w p 2 _ _ hp
  have c3 : w.cell? ⟨p, 3, none⟩ = some (.bool g) := by rw [cell_of_row w _ 3 _ _ _ hp]; rfl
  have z3 := froz11 w p 3 _ _ hp
  have c4 : w.cell? ⟨p, 4, none⟩ = some (.int .i64 due) := by rw [cell_of_row w _ 4 _ _ _ hp]; rfl
  have z4 := froz11 w p 4 _ _ hp
  have c5 : w.cell? ⟨p, 5, none⟩ = some (.int .u8 n) := by rw [cell_of_row w _ 5 _ _ _ hp]; rfl
  have z5 := froz11 w p 5 _ _ hp
  have HP : Hid (w.heap[p]? = some (.cells (prC id top P g due n) 81 (0, 0))) := hp
  clear hp
  go_enter Try.func14, Try.ntmps14
  go_wp2_with fail
  go_end0
  exact ⟨rfl, heap_setCell_same _ _ _ _ _ _ HP.out, Kp.set (Kp.refl _ _) _ _ (.inl (by simp))⟩

set_option linter.unusedSimpArgs false in
set_option maxHeartbeats 4000000 in
set_option maxRecDepth 100000 in
theorem due_nil (w : World) : Calls Try.prog 17 #[.pointer none] w fun e w' => e = .returned (.tuple #[.int .i64 0, .bool false]) ∧ w' = w := by
  go_enter Try.func17, Try.ntmps17
  go_wp2_with fail
  go_ret2
  exact ⟨rfl, rfl⟩
set_option linter.unusedSimpArgs false in
set_option maxHeartbeats 4000000 in
set_option maxRecDepth 100000 in
theorem due_no (p : Nat) (id top P due n : Int) (w : World) (hp : w.heap[p]? = some (.cells (prC id top P false due n) 81 (0, 0))) : Calls Try.prog 17 #[.pointer (some ⟨p, 0, none⟩)] w fun e w' => e = .returned (.tuple #[.int .i64 0, .bool false]) ∧ w' = w := by
  have c0 : w.cell? ⟨p, 0, none⟩ = some (.int .u16 id) := by rw [cell_of_row w _ 0 _ _ _ hp]; rfl
  have z0 := froz11 w p 0 _ _ hp
  have c1 : w.cell? ⟨p, 1, none⟩ = some (.int .u8 top) := by rw [cell_of_row w _ 1 _ _ _ hp]; rfl
  have z1 := froz11 w p 1 _ _ hp
  have c2 : w.cell? ⟨p, 2, none⟩ = some (.int .i64 P) := by rw [cell_of_row w _ 2 _ _ _ hp]; rfl
  have z2 := froz11 w p 2 _ _ hp
  have c3 : w.cell? ⟨p, 3, none⟩ = some (.bool false) := by rw [cell_of_row w _ 3 _ _ _ hp]; rfl
  have z3 := froz11 w p 3 _ _ hp
  have c4 : w.cell? ⟨p, 4, none⟩ = some (.int .i64 due) := by rw [cell_of_row w _ 4 _ _ _ hp]; rfl
  have z4 := froz11 w p 4 _ _ hp
  have c5 : w.cell? ⟨p, 5, none⟩ = some (.int .u8 n) := by rw [cell_of_row w _ 5 _ _ _ hp]; rfl
  have z5 := froz11 w p 5 _ _ hp
  clear hp
  go_enter Try.func17, Try.ntmps17
  go_wp2_with fail
  go_ret2
  exact ⟨rfl, rfl⟩
set_option linter.unusedSimpArgs false in
set_option maxHeartbeats 4000000 in
set_option maxRecDepth 100000 in
theorem due_yes (p : Nat) (id top P due n : Int) (w : World) (hp : w.heap[p]? = some (.cells (prC id top P true due n) 81 (0, 0))) : Calls Try.prog 17 #[.pointer (some ⟨p, 0, none⟩)] w fun e w' => e = .returned (.tuple #[.int .i64 due, .bool true]) ∧ w' = w := by
  have c0 : w.cell? ⟨p, 0, none⟩ = some (.int .u16 id) := by rw [cell_of_row w _ 0 _ _ _ hp]; rfl
  have z0 := froz11 w p 0 _ _ hp
  have c1 : w.cell? ⟨p, 1, none⟩ = some (.int .u8 top) := by rw [cell_of_row w _ 1 _ _ _ hp]; rfl
  have z1 := froz11 w p 1 _ _ hp
  have c2 : w.cell? ⟨p, 2, none⟩ = some (.int .i64 P) := by rw [cell_of_row w _ 2 _ _ _ hp]; rfl
  have z2 := froz11 w p 2 _ _ hp
  have c3 : w.cell? ⟨p, 3, none⟩ = some (.bool true) := by rw [cell_of_row w _ 3 _ _ _ hp]; rfl
  have z3 := froz11 w p 3 _ _ hp
  have c4 : w.cell? ⟨p, 4, none⟩ = some (.int .i64 due) := by rw [cell_of_row w _ 4 _ _ _ hp]; rfl
  have z4 := froz11 w p 4 _ _ hp
  have c5 : w.cell? ⟨p, 5, none⟩ = some (.int .u8 n) := by rw [cell_of_row w _ 5 _ _ _ hp]; rfl
  have z5 := froz11 w p 5 _ _ hp
  clear hp
  go_enter Try.func17, Try.ntmps17
  go_wp2_with fail
  go_ret2
  exact ⟨rfl, rfl⟩
theorem tick_eqs (now due P : Int) (t0 : 0 ≤ now) (t1 : now ≤ 1099511627776) (hd : due ≤ now) (hP : 1 ≤ P) (hP2 : P ≤ 1099511627776) (hdu : 0 ≤ due) : IntKind.i64.wrap (now - due) = now - due ∧ IntKind.i64.wrap ((now - due).tdiv P) = (now - due) / P ∧ IntKind.i64.wrap ((now - due) / P + 1) = (now - due) / P + 1 ∧ IntKind.i64.wrap (((now - due) / P + 1) * P) = ((now - due) / P + 1) * P ∧ IntKind.i64.wrap (due + ((now - due) / P + 1) * P) = due + ((now - due) / P + 1) * P := by
  have h1 : 0 ≤ (now - due) / P := Int.ediv_nonneg (by omega) (by omega)
  have h2 : (now - due) / P * P ≤ now - due := Int.ediv_mul_le _ (by omega)
  have h3 : (now - due) / P ≤ now - due := Int.ediv_le_self _ (by omega)
  have h4 : ((now - due) / P + 1) * P = (now - due) / P * P + P := by rw [Int.add_mul, Int.one_mul]
  have h5 : 0 ≤ (now - due) / P * P := Int.mul_nonneg h1 (by omega)
  refine ⟨w64 _ (by omega) (by omega), ?_, w64 _ (by omega) (by omega), w64 _ (by omega) (by omega), w64 _ (by omega) (by omega)⟩
  rw [Int.tdiv_eq_ediv_of_nonneg (by omega)]
  exact w64 _ (by omega) (by omega)
#print axioms due_yes
end Go.Proofs.Ytlijkgkkoahajaa
