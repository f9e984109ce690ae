/-
  Clocks, both sides: Set and At.
-/
import Derived.Test.YtlijkgkkoahajaaYi
namespace Go.Proofs.Ytlijkgkkoahajaa
open Go.RowKit

/-- A clock's cells. -/
abbrev ckC (is : Bool) (at_ days ms : Int) : Array Value := #[.bool is, .int .i64 at_, .int .u16 days, .int .u32 ms]
/-- The document's. -/
abbrev ukC (is : Bool) (days ms at_ : Int) : Array Value := #[.bool is, .int .u16 days, .int .u32 ms, .int .i64 at_]
theorem sizeK : (Try.prog.info? 70).map (·.size) = some 4 := by kernel_rfl

set_option linter.unusedSimpArgs false in
set_option maxHeartbeats 4000000 in
set_option maxRecDepth 100000 in
theorem set_bad (p : Nat) (days ms now : Int) (h : 86400000 ≤ ms ∨ tmB now = false) (w : World) : Calls Try.prog 31 #[.pointer (some ⟨p, 0, none⟩), .int .u16 days, .int .u32 ms, .int .i64 now] w fun e w' => e = .returned (.int .i64 2) ∧ w' = w := by
  by_cases h1 : 86400000 ≤ ms
  · clear h
    go_enter Try.func31, Try.ntmps31
    go_wp2_with fail
    go_ret
    exact ⟨rfl, rfl⟩
  · have IT := fun X => isTime_any now X
    rw [show tmB now = false from by rcases h with h | h; exact absurd h h1; exact h] at IT
    clear h
    go_enter Try.func31, Try.ntmps31
    go_wp2_with fail
    refine (IT _).mono ?_
    rintro e w ⟨rfl, rfl⟩
    go_wp2_with fail
    go_ret
    exact ⟨rfl, rfl⟩
set_option linter.unusedSimpArgs false in
set_option maxHeartbeats 4000000 in
set_option maxRecDepth 100000 in
theorem set_nil (days ms now : Int) (w : World) : Calls Try.prog 31 #[.pointer none, .int .u16 days, .int .u32 ms, .int .i64 now] w fun e w' => e = .returned (.int .i64 1) ∧ w' = w := by
  go_enter Try.func31, Try.ntmps31
  go_wp2_with fail
  go_ret
  exact ⟨rfl, rfl⟩
set_option linter.unusedSimpArgs false in
set_option maxHeartbeats 4000000 in
set_option maxRecDepth 100000 in
theorem set_ok (p : Nat) (is : Bool) (a d m days ms now : Int) (h1 : ms < 86400000) (h : tmB now = true) (w : World) (hp : w.heap[p]? = some (.cells (ckC is a d m) 70 (0, 0))) : Calls Try.prog 31 #[.pointer (some ⟨p, 0, none⟩), .int .u16 days, .int .u32 ms, .int .i64 now] w fun e w' => e = .returned (.int .i64 0) ∧ w'.heap[p]? = some (.cells (ckC true now days ms) 70 (0, 0)) ∧ Kp [p] w w' := by
  have IT := fun X => isTime_any now X
  rw [h] at IT
  clear h
  have h2 : ¬ 86400000 ≤ ms := by omega
  have HP : Hid (w.heap[p]? = some (.cells (ckC is a d m) 70 (0, 0))) := hp
  clear hp
  go_enter Try.func31, Try.ntmps31
  go_wp2_with fail
  refine (IT _).mono ?_
  rintro e w ⟨rfl, rfl⟩
  go_wp2_with (refine wpList_store_row rfl 70 _ _ rfl p (ckC true now days ms) rfl rfl 70 _ HP.out sizeK rfl (by simp [Value.oneCell']) ?_)
  go_ret
  exact ⟨rfl, setRow_heap _ _ _ _ _ _ HP.out, (Kp.refl _ _).row _ _ (.inl (by simp))⟩

set_option linter.unusedSimpArgs false in
set_option maxHeartbeats 4000000 in
set_option maxRecDepth 100000 in
theorem uset_bad (p : Nat) (days ms now : Int) (h : 86400000 ≤ ms ∨ tmB now = false) (w : World) : Calls Try.prog 32 #[.pointer (some ⟨p, 0, none⟩), .int .u16 days, .int .u32 ms, .int .i64 now] w fun e w' => e = .returned (.int .i64 2) ∧ w' = w := by
  by_cases h1 : 86400000 ≤ ms
  · clear h
    go_enter Try.func32, Try.ntmps32
    go_wp2_with fail
    go_ret
    exact ⟨rfl, rfl⟩
  · have IT := fun X => time_any now X
    rw [show tmB now = false from by rcases h with h | h; exact absurd h h1; exact h] at IT
    clear h
    go_enter Try.func32, Try.ntmps32
    go_wp2_with fail
    refine (IT _).mono ?_
    rintro e w ⟨rfl, rfl⟩
    go_wp2_with fail
    go_ret
    exact ⟨rfl, rfl⟩
set_option linter.unusedSimpArgs false in
set_option maxHeartbeats 4000000 in
set_option maxRecDepth 100000 in
theorem uset_ok (p : Nat) (is : Bool) (a d m days ms now : Int) (h1 : ms < 86400000) (h : tmB now = true) (w : World) (hp : w.heap[p]? = some (.cells (ukC is d m a) 72 (0, 0))) : Calls Try.prog 32 #[.pointer (some ⟨p, 0, none⟩), .int .u16 days, .int .u32 ms, .int .i64 now] w fun e w' => e = .returned (.int .i64 0) ∧ w'.heap[p]? = some (.cells (ukC true days ms now) 72 (0, 0)) ∧ Kp [p] w w' := by
  have IT := fun X => time_any now X
  rw [h] at IT
  clear h
  have h2 : ¬ 86400000 ≤ ms := by omega
  have c0 : w.cell? ⟨p, 0, none⟩ = some (.bool is) := by rw [cell_of_row w _ 0 _ _ _ hp]; rfl
  have z0 := froz11 w p 0 _ _ hp
  have c1 : w.cell? ⟨p, 1, none⟩ = some (.int .u16 d) := by rw [cell_of_row w _ 1 _ _ _ hp]; rfl
  have z1 := froz11 w p 1 _ _ hp
  have c2 : w.cell? ⟨p, 2, none⟩ = some (.int .u32 m) := by rw [cell_of_row w _ 2 _ _ _ hp]; rfl
  have z2 := froz11 w p 2 _ _ hp
  have c3 : w.cell? ⟨p, 3, none⟩ = some (.int .i64 a) := by rw [cell_of_row w _ 3 _ _ _ hp]; rfl
  have z3 := froz11 w p 3 _ _ hp
  have HP : Hid (w.heap[p]? = some (.cells (ukC is d m a) 72 (0, 0))) := hp
  clear hp
  go_enter Try.func32, Try.ntmps32
  go_wp2_with fail
  refine (IT _).mono ?_
  rintro e w ⟨rfl, rfl⟩
  go_wp2_with fail
  go_ret
  exact ⟨rfl, heap_setCell_same _ _ _ _ _ _ (heap_setCell_same _ _ _ _ _ _ (heap_setCell_same _ _ _ _ _ _ (heap_setCell_same _ _ _ _ _ _ HP.out))), (((Kp.set (Kp.refl _ _) _ _ (.inl (by simp))).set _ _ (.inl (by simp))).set _ _ (.inl (by simp))).set _ _ (.inl (by simp))⟩

set_option linter.unusedSimpArgs false in
set_option maxHeartbeats 4000000 in
set_option maxRecDepth 100000 in
theorem at_nil (now : Int) (w : World) : Calls Try.prog 30 #[.pointer none, .int .i64 now] w fun e w' => e = .returned (.tuple #[.int .u16 0, .int .u32 0, .bool false]) ∧ w' = w := by
  go_enter Try.func30, Try.ntmps30
  go_wp2_with fail
  exact bodyPost_ret (v := .tuple #[.int .u16 0, .int .u32 0, .bool false]) (by simp [results, Try.results30, go_sem]) rfl ⟨rfl, rfl⟩
set_option linter.unusedSimpArgs false in
set_option maxHeartbeats 4000000 in
set_option maxRecDepth 100000 in
theorem at_off (p : Nat) (a d m now : Int) (w : World) (hp : w.heap[p]? = some (.cells (ckC false a d m) 70 (0, 0))) : Calls Try.prog 30 #[.pointer (some ⟨p, 0, none⟩), .int .i64 now] w fun e w' => e = .returned (.tuple #[.int .u16 0, .int .u32 0, .bool false]) ∧ w' = w := by
  have c0 : w.cell? ⟨p, 0, none⟩ = some (.bool false) := by rw [cell_of_row w _ 0 _ _ _ hp]; rfl
  have z0 := froz11 w p 0 _ _ hp
  have c1 : w.cell? ⟨p, 1, none⟩ = some (.int .i64 a) := by rw [cell_of_row w _ 1 _ _ _ hp]; rfl
  have z1 := froz11 w p 1 _ _ hp
  have c2 : w.cell? ⟨p, 2, none⟩ = some (.int .u16 d) := by rw [cell_of_row w _ 2 _ _ _ hp]; rfl
  have z2 := froz11 w p 2 _ _ hp
  have c3 : w.cell? ⟨p, 3, none⟩ = some (.int .u32 m) := by rw [cell_of_row w _ 3 _ _ _ hp]; rfl
  have z3 := froz11 w p 3 _ _ hp
  clear hp
  go_enter Try.func30, Try.ntmps30
  go_wp2_with fail
  exact bodyPost_ret (v := .tuple #[.int .u16 0, .int .u32 0, .bool false]) (by simp [results, Try.results30, go_sem]) rfl ⟨rfl, rfl⟩
set_option linter.unusedSimpArgs false in
set_option maxHeartbeats 4000000 in
set_option maxRecDepth 100000 in
theorem at_none (p : Nat) (a d m now : Int) (h : tmB now = false ∨ now < a) (w : World) (hp : w.heap[p]? = some (.cells (ckC true a d m) 70 (0, 0))) : Calls Try.prog 30 #[.pointer (some ⟨p, 0, none⟩), .int .i64 now] w fun e w' => e = .returned (.tuple #[.int .u16 0, .int .u32 0, .bool false]) ∧ w' = w := by
  have c0 : w.cell? ⟨p, 0, none⟩ = some (.bool true) := by rw [cell_of_row w _ 0 _ _ _ hp]; rfl
  have z0 := froz11 w p 0 _ _ hp
  have c1 : w.cell? ⟨p, 1, none⟩ = some (.int .i64 a) := by rw [cell_of_row w _ 1 _ _ _ hp]; rfl
  have z1 := froz11 w p 1 _ _ hp
  have c2 : w.cell? ⟨p, 2, none⟩ = some (.int .u16 d) := by rw [cell_of_row w _ 2 _ _ _ hp]; rfl
  have z2 := froz11 w p 2 _ _ hp
  have c3 : w.cell? ⟨p, 3, none⟩ = some (.int .u32 m) := by rw [cell_of_row w _ 3 _ _ _ hp]; rfl
  have z3 := froz11 w p 3 _ _ hp
  clear hp
  have IT := fun X => isTime_any now X
  cases ht : tmB now with
  | false =>
    rw [ht] at IT
    clear h ht
    go_enter Try.func30, Try.ntmps30
    go_wp2_with fail
    refine (IT _).mono ?_
    rintro e w ⟨rfl, rfl⟩
    go_wp2_with fail
    exact bodyPost_ret (v := .tuple #[.int .u16 0, .int .u32 0, .bool false]) (by simp [results, Try.results30, go_sem]) rfl ⟨rfl, rfl⟩
  | true =>
    have h2 : now < a := by rcases h with h | h; rw [ht] at h; cases h; exact h
    rw [ht] at IT
    clear h ht
    go_enter Try.func30, Try.ntmps30
    go_wp2_with fail
    refine (IT _).mono ?_
    rintro e w ⟨rfl, rfl⟩
    go_wp2_with fail
    exact bodyPost_ret (v := .tuple #[.int .u16 0, .int .u32 0, .bool false]) (by simp [results, Try.results30, go_sem]) rfl ⟨rfl, rfl⟩

set_option linter.unusedSimpArgs false in
set_option maxHeartbeats 4000000 in
set_option maxRecDepth 100000 in
theorem at_yes (p : Nat) (a d m now : Int) (h : tmB now = true) (ha : a ≤ now) (a0 : 0 ≤ a) (m0 : 0 ≤ m ∧ m < 86400000) (w : World) (hp : w.heap[p]? = some (.cells (ckC true a d m) 70 (0, 0))) : Calls Try.prog 30 #[.pointer (some ⟨p, 0, none⟩), .int .i64 now] w fun e w' => e = .returned (.tuple #[.int .u16 ((d + (m + now - a) / 86400000) % 65536), .int .u32 ((m + now - a) % 86400000), .bool true]) ∧ Below w.heap.size w w' := by
  have c0 : w.cell? ⟨p, 0, none⟩ = some (.bool true) := by rw [cell_of_row w _ 0 _ _ _ hp]; rfl
  have z0 := froz11 w p 0 _ _ hp
  have c1 : w.cell? ⟨p, 1, none⟩ = some (.int .i64 a) := by rw [cell_of_row w _ 1 _ _ _ hp]; rfl
  have z1 := froz11 w p 1 _ _ hp
  have c2 : w.cell? ⟨p, 2, none⟩ = some (.int .u16 d) := by rw [cell_of_row w _ 2 _ _ _ hp]; rfl
  have z2 := froz11 w p 2 _ _ hp
  have c3 : w.cell? ⟨p, 3, none⟩ = some (.int .u32 m) := by rw [cell_of_row w _ 3 _ _ _ hp]; rfl
  have z3 := froz11 w p 3 _ _ hp
  clear hp
  have IT := fun X => isTime_any now X
  rw [h] at IT
  obtain ⟨t0, t1⟩ := tmB_of h
  have nlt : ¬ now < a := by omega
  clear h
  go_enter Try.func30, Try.ntmps30
  go_wp2_with fail
  refine (IT _).mono ?_
  rintro e w ⟨rfl, rfl⟩
  go_wp2_with fail
  go_quiet (fail)
  have BQ := below_drewN (Below.refl w.heap.size w) nq
  have e2 := cl11 BQ c2
  obtain ⟨T, hT⟩ : ∃ T, Hid (m + now - a = T) := ⟨_, rfl⟩
  have T0 : 0 ≤ T := by rw [← hT.out]; omega
  have T1 : T < 1100000000000 := by rw [← hT.out]; omega
  rw [hT.out]
  go_wp2_with fail
  have W : IntKind.u16.wrap (d + T / 86400000) = (d + T / 86400000) % 65536 := by simp [IntKind.wrap, IntKind.bits, IntKind.signed]
  exact bodyPost_ret (v := .tuple #[.int .u16 ((d + T / 86400000) % 65536), .int .u32 (T % 86400000), .bool true]) (by simp [results, Try.results30, go_sem, W]) rfl ⟨by rw [hT.out], BQ⟩

set_option linter.unusedSimpArgs false in
set_option maxHeartbeats 4000000 in
set_option maxRecDepth 100000 in
theorem uat_off (p : Nat) (a d m now : Int) (w : World) (hp : w.heap[p]? = some (.cells (ukC false d m a) 72 (0, 0))) : Calls Try.prog 33 #[.pointer (some ⟨p, 0, none⟩), .int .i64 now] w fun e w' => e = .returned (.tuple #[.int .u16 0, .int .u32 0, .bool false]) ∧ w' = w := by
  have c0 : w.cell? ⟨p, 0, none⟩ = some (.bool false) := by rw [cell_of_row w _ 0 _ _ _ hp]; rfl
  have z0 := froz11 w p 0 _ _ hp
  have c1 : w.cell? ⟨p, 1, none⟩ = some (.int .u16 d) := by rw [cell_of_row w _ 1 _ _ _ hp]; rfl
  have z1 := froz11 w p 1 _ _ hp
  have c2 : w.cell? ⟨p, 2, none⟩ = some (.int .u32 m) := by rw [cell_of_row w _ 2 _ _ _ hp]; rfl
  have z2 := froz11 w p 2 _ _ hp
  have c3 : w.cell? ⟨p, 3, none⟩ = some (.int .i64 a) := by rw [cell_of_row w _ 3 _ _ _ hp]; rfl
  have z3 := froz11 w p 3 _ _ hp
  clear hp
  go_enter Try.func33, Try.ntmps33
  go_wp2_with fail
  exact bodyPost_ret (v := .tuple #[.int .u16 0, .int .u32 0, .bool false]) (by simp [results, Try.results33, go_sem]) rfl ⟨rfl, rfl⟩
set_option linter.unusedSimpArgs false in
set_option maxHeartbeats 4000000 in
set_option maxRecDepth 100000 in
theorem uat_none (p : Nat) (a d m now : Int) (h : tmB now = false ∨ now < a) (w : World) (hp : w.heap[p]? = some (.cells (ukC true d m a) 72 (0, 0))) : Calls Try.prog 33 #[.pointer (some ⟨p, 0, none⟩), .int .i64 now] w fun e w' => e = .returned (.tuple #[.int .u16 0, .int .u32 0, .bool false]) ∧ w' = w := by
  have c0 : w.cell? ⟨p, 0, none⟩ = some (.bool true) := by rw [cell_of_row w _ 0 _ _ _ hp]; rfl
  have z0 := froz11 w p 0 _ _ hp
  have c1 : w.cell? ⟨p, 1, none⟩ = some (.int .u16 d) := by rw [cell_of_row w _ 1 _ _ _ hp]; rfl
  have z1 := froz11 w p 1 _ _ hp
  have c2 : w.cell? ⟨p, 2, none⟩ = some (.int .u32 m) := by rw [cell_of_row w _ 2 _ _ _ hp]; rfl
  have z2 := froz11 w p 2 _ _ hp
  have c3 : w.cell? ⟨p, 3, none⟩ = some (.int .i64 a) := by rw [cell_of_row w _ 3 _ _ _ hp]; rfl
  have z3 := froz11 w p 3 _ _ hp
  clear hp
  have IT := fun X => time_any now X
  cases ht : tmB now with
  | false =>
    rw [ht] at IT
    clear h ht
    go_enter Try.func33, Try.ntmps33
    go_wp2_with fail
    refine (IT _).mono ?_
    rintro e w ⟨rfl, rfl⟩
    go_wp2_with fail
    exact bodyPost_ret (v := .tuple #[.int .u16 0, .int .u32 0, .bool false]) (by simp [results, Try.results33, go_sem]) rfl ⟨rfl, rfl⟩
  | true =>
    have h2 : now < a := by rcases h with h | h; rw [ht] at h; cases h; exact h
    rw [ht] at IT
    clear h ht
    go_enter Try.func33, Try.ntmps33
    go_wp2_with fail
    refine (IT _).mono ?_
    rintro e w ⟨rfl, rfl⟩
    go_wp2_with fail
    exact bodyPost_ret (v := .tuple #[.int .u16 0, .int .u32 0, .bool false]) (by simp [results, Try.results33, go_sem]) rfl ⟨rfl, rfl⟩

set_option linter.unusedSimpArgs false in
set_option maxHeartbeats 4000000 in
set_option maxRecDepth 100000 in
theorem uat_yes (p : Nat) (a d m now : Int) (h : tmB now = true) (ha : a ≤ now) (a0 : 0 ≤ a) (m0 : 0 ≤ m ∧ m < 86400000) (d0 : 0 ≤ d ∧ d < 65536) (w : World) (hp : w.heap[p]? = some (.cells (ukC true d m a) 72 (0, 0))) : Calls Try.prog 33 #[.pointer (some ⟨p, 0, none⟩), .int .i64 now] w fun e w' => e = .returned (.tuple #[.int .u16 ((d + (m + now - a) / 86400000) % 65536), .int .u32 ((m + now - a) % 86400000), .bool true]) ∧ Below w.heap.size w w' := by
  have c0 : w.cell? ⟨p, 0, none⟩ = some (.bool true) := by rw [cell_of_row w _ 0 _ _ _ hp]; rfl
  have z0 := froz11 w p 0 _ _ hp
  have c1 : w.cell? ⟨p, 1, none⟩ = some (.int .u16 d) := by rw [cell_of_row w _ 1 _ _ _ hp]; rfl
  have z1 := froz11 w p 1 _ _ hp
  have c2 : w.cell? ⟨p, 2, none⟩ = some (.int .u32 m) := by rw [cell_of_row w _ 2 _ _ _ hp]; rfl
  have z2 := froz11 w p 2 _ _ hp
  have c3 : w.cell? ⟨p, 3, none⟩ = some (.int .i64 a) := by rw [cell_of_row w _ 3 _ _ _ hp]; rfl
  have z3 := froz11 w p 3 _ _ hp
  clear hp
  have IT := fun X => time_any now X
  rw [h] at IT
  obtain ⟨t0, t1⟩ := tmB_of h
  have nlt : ¬ now < a := by omega
  clear h
  go_enter Try.func33, Try.ntmps33
  go_wp2_with fail
  refine (IT _).mono ?_
  rintro e w ⟨rfl, rfl⟩
  go_wp2_with fail
  go_quiet (fail)
  have BQ := below_drewN (Below.refl w.heap.size w) nq
  have e2 := cl11 BQ c1
  obtain ⟨T, hT⟩ : ∃ T, Hid (m + now - a = T) := ⟨_, rfl⟩
  have T0 : 0 ≤ T := by rw [← hT.out]; omega
  have T1 : T < 1100000000000 := by rw [← hT.out]; omega
  rw [hT.out]
  go_wp2_with fail
  have W : IntKind.u16.wrap (d + T / 86400000) = (d + T / 86400000) % 65536 := by simp [IntKind.wrap, IntKind.bits, IntKind.signed]
  exact bodyPost_ret (v := .tuple #[.int .u16 ((d + T / 86400000) % 65536), .int .u32 (T % 86400000), .bool true]) (by simp [results, Try.results33, go_sem, W]) rfl ⟨by rw [hT.out], BQ⟩

theorem at_all (p : Nat) (a d m now : Int) (a0 : 0 ≤ a) (m0 : 0 ≤ m ∧ m < 86400000) (w : World) (hp : w.heap[p]? = some (.cells (ckC true a d m) 70 (0, 0))) : Calls Try.prog 30 #[.pointer (some ⟨p, 0, none⟩), .int .i64 now] w fun e w' => e = .returned (if tmB now = true ∧ a ≤ now then .tuple #[.int .u16 ((d + (m + now - a) / 86400000) % 65536), .int .u32 ((m + now - a) % 86400000), .bool true] else .tuple #[.int .u16 0, .int .u32 0, .bool false]) ∧ Below w.heap.size w w' := by
  by_cases h : tmB now = true ∧ a ≤ now
  · rw [if_pos h]
    exact at_yes p a d m now h.1 h.2 a0 m0 w hp
  · rw [if_neg h]
    refine (at_none p a d m now (by by_cases ht : tmB now = true; right; by_cases ha : a ≤ now; exact absurd ⟨ht, ha⟩ h; omega; left; simpa using ht) w hp).mono ?_
    rintro e w' ⟨rfl, rfl⟩
    exact ⟨rfl, Below.refl _ _⟩
theorem uat_all (p : Nat) (a d m now : Int) (a0 : 0 ≤ a) (m0 : 0 ≤ m ∧ m < 86400000) (d0 : 0 ≤ d ∧ d < 65536) (w : World) (hp : w.heap[p]? = some (.cells (ukC true d m a) 72 (0, 0))) : Calls Try.prog 33 #[.pointer (some ⟨p, 0, none⟩), .int .i64 now] w fun e w' => e = .returned (if tmB now = true ∧ a ≤ now then .tuple #[.int .u16 ((d + (m + now - a) / 86400000) % 65536), .int .u32 ((m + now - a) % 86400000), .bool true] else .tuple #[.int .u16 0, .int .u32 0, .bool false]) ∧ Below w.heap.size w w' := by
  by_cases h : tmB now = true ∧ a ≤ now
  · rw [if_pos h]
    exact uat_yes p a d m now h.1 h.2 a0 m0 d0 w hp
  · rw [if_neg h]
    refine (uat_none p a d m now (by by_cases ht : tmB now = true; right; by_cases ha : a ≤ now; exact absurd ⟨ht, ha⟩ h; omega; left; simpa using ht) w hp).mono ?_
    rintro e w' ⟨rfl, rfl⟩
    exact ⟨rfl, Below.refl _ _⟩
#print axioms uat_all
end Go.Proofs.Ytlijkgkkoahajaa
