/-
  The walks of the small ones: isTime, isNode, isState, the document's Time, State and Beat, beat.
-/
import Derived.Test.YtjdfacjfpdfafaaYb
namespace Go.Proofs.Ytjdfacjfpdfafaa
open Go.RowKit

/-- Is it a time? -/
def tmB (n : Int) : Bool := decide (0 ≤ n) && decide (n ≤ 1099511627776)
theorem tmB_t {n : Int} (h0 : 0 ≤ n) (h1 : n ≤ 1099511627776) : tmB n = true := by simp [tmB, h0, h1]
theorem tmB_f {n : Int} (h : n < 0 ∨ 1099511627776 < n) : tmB n = false := by simp [tmB]; omega
theorem tmB_of {n : Int} (h : tmB n = true) : 0 ≤ n ∧ n ≤ 1099511627776 := by simpa [tmB] using h
theorem tmB_no {n : Int} (h : tmB n = false) : n < 0 ∨ 1099511627776 < n := by simp [tmB] at h; omega
/-- Is it a node? -/
def ndB (n : Int) : Bool := decide (1 ≤ n) && decide (n ≤ 127)
theorem ndB_t {n : Int} (h0 : 1 ≤ n) (h1 : n ≤ 127) : ndB n = true := by simp [ndB, h0, h1]
theorem ndB_of {n : Int} (h : ndB n = true) : 1 ≤ n ∧ n ≤ 127 := by simpa [ndB] using h
theorem ndB_no {n : Int} (h : ndB n = false) : n < 1 ∨ 127 < n := by simp [ndB] at h; omega
/-- Is it a state? -/
def stB (s : Int) : Bool := s == 0 || (s == 4 || (s == 5 || s == 127))
theorem stB_of {s : Int} (h : stB s = true) : s = 0 ∨ s = 4 ∨ s = 5 ∨ s = 127 := by simpa [stB] using h

set_option linter.unusedSimpArgs false in
set_option maxHeartbeats 4000000 in
set_option maxRecDepth 100000 in
theorem isTime_any (n : Int) (w : World) : Calls Try.prog 31 #[.int .i64 n] w fun e w' => e = .returned (.bool (tmB n)) ∧ w' = w := by
  by_cases h0 : n < 0
  · go_enter Try.func31, Try.ntmps31
    go_wp2_with fail
    go_ret
    exact ⟨ret_bool (by rw [Bool.eq_iff_iff]; first | (simp [tmB]; done) | (simp [tmB]; omega)), rfl⟩
  · by_cases h1 : 1099511627776 < n
    · go_enter Try.func31, Try.ntmps31
      go_wp2_with fail
      go_ret
      exact ⟨ret_bool (by rw [Bool.eq_iff_iff]; first | (simp [tmB]; done) | (simp [tmB]; omega)), rfl⟩
    · go_enter Try.func31, Try.ntmps31
      go_wp2_with fail
      go_ret
      exact ⟨ret_bool (by rw [Bool.eq_iff_iff]; first | (simp [tmB]; done) | (simp [tmB]; omega)), rfl⟩
set_option linter.unusedSimpArgs false in
set_option maxHeartbeats 4000000 in
set_option maxRecDepth 100000 in
theorem time_any (n : Int) (w : World) : Calls Try.prog 32 #[.int .i64 n] w fun e w' => e = .returned (.bool (tmB n)) ∧ w' = w := by
  by_cases h0 : n < 0
  · go_enter Try.func32, Try.ntmps32
    go_wp2_with fail
    go_ret
    exact ⟨ret_bool (by rw [Bool.eq_iff_iff]; first | (simp [tmB]; done) | (simp [tmB]; omega)), rfl⟩
  · by_cases h1 : 1099511627776 < n
    · go_enter Try.func32, Try.ntmps32
      go_wp2_with fail
      go_ret
      exact ⟨ret_bool (by rw [Bool.eq_iff_iff]; first | (simp [tmB]; done) | (simp [tmB]; omega)), rfl⟩
    · go_enter Try.func32, Try.ntmps32
      go_wp2_with fail
      go_ret
      exact ⟨ret_bool (by rw [Bool.eq_iff_iff]; first | (simp [tmB]; done) | (simp [tmB]; omega)), rfl⟩
set_option linter.unusedSimpArgs false in
set_option maxHeartbeats 4000000 in
set_option maxRecDepth 100000 in
theorem isNode_any (n : Int) (w : World) : Calls Try.prog 30 #[.int .u8 n] w fun e w' => e = .returned (.bool (ndB n)) ∧ w' = w := by
  by_cases h0 : n < 1
  · go_enter Try.func30, Try.ntmps30
    go_wp2_with fail
    go_ret
    exact ⟨ret_bool (by rw [Bool.eq_iff_iff]; simp [ndB]; omega), rfl⟩
  · by_cases h1 : 127 < n
    · go_enter Try.func30, Try.ntmps30
      go_wp2_with fail
      go_ret
      exact ⟨ret_bool (by rw [Bool.eq_iff_iff]; simp [ndB]; omega), rfl⟩
    · go_enter Try.func30, Try.ntmps30
      go_wp2_with fail
      go_ret
      exact ⟨ret_bool (by rw [Bool.eq_iff_iff]; simp [ndB]; omega), rfl⟩
set_option linter.unusedSimpArgs false in
set_option maxHeartbeats 4000000 in
set_option maxRecDepth 100000 in
theorem isState_any (s : Int) (w : World) : Calls Try.prog 33 #[.int .u8 s] w fun e w' => e = .returned (.bool (stB s)) ∧ w' = w := by
  go_enter Try.func33, Try.ntmps33
  go_wp2_with fail
  all_goals (go_ret; exact ⟨ret_bool (by simp [stB, *]), rfl⟩)
set_option linter.unusedSimpArgs false in
set_option maxHeartbeats 4000000 in
set_option maxRecDepth 100000 in
theorem rstate_any (s : Int) (w : World) : Calls Try.prog 35 #[.int .u8 s] w fun e w' => e = .returned (.bool (stB s)) ∧ w' = w := by
  by_cases h0 : s = 0
  · subst h0
    go_enter Try.func35, Try.ntmps35
    go_wp2_with fail
    go_ret
    exact ⟨rfl, rfl⟩
  by_cases h1 : s = 4
  · subst h1
    go_enter Try.func35, Try.ntmps35
    go_wp2_with fail
    go_ret
    exact ⟨rfl, rfl⟩
  by_cases h2 : s = 5
  · subst h2
    go_enter Try.func35, Try.ntmps35
    go_wp2_with fail
    go_ret
    exact ⟨rfl, rfl⟩
  go_enter Try.func35, Try.ntmps35
  go_wp2_with fail
  go_ret
  exact ⟨ret_bool (by simp [stB, *, Bool.or_assoc]), rfl⟩
#print axioms isState_any
#print axioms rstate_any

theorem frC_at {w : World} {B : Nat} {i n d0 d1 d2 d3 d4 d5 d6 d7 : Int} {r : Bool} (h : w.heap[B]? = some (.cells (frC i n d0 d1 d2 d3 d4 d5 d6 d7 r) 37 (0, 0))) : w.cell? ⟨B, 0, none⟩ = some (.int .u16 i) ∧ w.cell? ⟨B, 1, none⟩ = some (.int .i64 n) ∧ w.cell? ⟨B, 2, none⟩ = some (.int .u8 d0) ∧ w.cell? ⟨B, 3, none⟩ = some (.int .u8 d1) ∧ w.cell? ⟨B, 4, none⟩ = some (.int .u8 d2) ∧ w.cell? ⟨B, 5, none⟩ = some (.int .u8 d3) ∧ w.cell? ⟨B, 6, none⟩ = some (.int .u8 d4) ∧ w.cell? ⟨B, 7, none⟩ = some (.int .u8 d5) ∧ w.cell? ⟨B, 8, none⟩ = some (.int .u8 d6) ∧ w.cell? ⟨B, 9, none⟩ = some (.int .u8 d7) ∧ w.cell? ⟨B, 10, none⟩ = some (.bool r) := by
  refine ⟨?_, ?_, ?_, ?_, ?_, ?_, ?_, ?_, ?_, ?_, ?_⟩ <;> (rw [cell_of_row w B _ _ _ _ h]; rfl)
theorem frZ_at {w : World} {B : Nat} {C : Array Value} {T : TypeId} (h : w.heap[B]? = some (.cells C T (0, 0))) : w.frozen? ⟨B, 0, none⟩ = false ∧ w.frozen? ⟨B, 1, none⟩ = false ∧ w.frozen? ⟨B, 2, none⟩ = false ∧ w.frozen? ⟨B, 3, none⟩ = false ∧ w.frozen? ⟨B, 4, none⟩ = false ∧ w.frozen? ⟨B, 5, none⟩ = false ∧ w.frozen? ⟨B, 6, none⟩ = false ∧ w.frozen? ⟨B, 7, none⟩ = false ∧ w.frozen? ⟨B, 8, none⟩ = false ∧ w.frozen? ⟨B, 9, none⟩ = false ∧ w.frozen? ⟨B, 10, none⟩ = false := by
  refine ⟨?_, ?_, ?_, ?_, ?_, ?_, ?_, ?_, ?_, ?_, ?_⟩ <;> exact froz11 w B _ _ _ h
theorem row_one (W : World) (n : Int) (hn : 0 ≤ n ∧ n < 256) (k : Nat) (hk : k = W.heap.size) : Row (W.alloc (.cells #[.int .u8 n] 5)) (some ⟨k, 0, none⟩) 1 [n] := by
  subst hk
  exact row_lit _ _ _ [n] 1 rfl (fun m hm => by rw [List.mem_singleton] at hm; rw [hm]; exact hn) rfl
/-- A beat. -/
abbrev beV (a s : Int) : Value := frV (1792 + a) 1 s 0 0 0 0 0 0 0 false
theorem mkR_one (id s : Int) (h : id ≤ 2047) : mkR id [s] = ⟨id, 1, s, 0, 0, 0, 0, 0, 0, 0, false, 0⟩ := by
  rw [mkR_good _ _ h (by simp)]
  rfl
set_option linter.unusedSimpArgs false in
set_option maxHeartbeats 4000000 in
set_option maxRecDepth 100000 in
theorem rbeat_any (a s : Int) (h0 : 0 ≤ a ∧ a < 256) (w : World) : Calls Try.prog 27 #[.int .u8 a, .int .u8 s] w fun e w' => e = .returned (beV a s) ∧ Below w.heap.size w w' := by
  have V3 : IntKind.u16.wrap a = a := by rw [IntKind.wrap_u16]; omega
  have V4 : IntKind.u16.wrap (1792 + a) = 1792 + a := by rw [IntKind.wrap_u16]; omega
  clear h0
  go_enter Try.func27, Try.ntmps27
  go_wp2_with fail
  exact bodyPost_ret (v := beV a s) (by simp [results, Try.results27, go_sem]) rfl ⟨rfl, (by repeat (first | exact Below.refl _ _ | apply Below.drew | apply Below.al))⟩
set_option linter.unusedSimpArgs false in
set_option maxHeartbeats 4000000 in
set_option maxRecDepth 100000 in
theorem beat_any (a s : Int) (h0 : 0 ≤ a ∧ a < 256) (hs : 0 ≤ s ∧ s < 256) (w : World) : Calls Try.prog 34 #[.int .u8 a, .int .u8 s] w fun e w' => e = .returned (beV a s) ∧ Below w.heap.size w w' := by
  have MK : Hid (∀ (W : World) (b : Nat), Row W (some ⟨b, 0, none⟩) 1 [s] → Calls Try.prog 45 #[.int .u16 (1792 + a), .slice (some ⟨b, 0, none⟩) 1 1] W fun e w' => e = .returned (.tuple #[beV a s, .int .i64 0]) ∧ Below W.heap.size W w') := fun W b hr => by
    have := make_any (1792 + a) (some ⟨b, 0, none⟩) 1 1 _ W hr
    rwa [mkR_one _ _ (by omega)] at this
  have V3 : IntKind.u16.wrap a = a := by rw [IntKind.wrap_u16]; omega
  have V4 : IntKind.u16.wrap (1792 + a) = 1792 + a := by rw [IntKind.wrap_u16]; omega
  clear h0
  go_enter Try.func34, Try.ntmps34
  go_wp2_with fail
  refine (MK.out _ _ (row_one _ s hs _ (by simp))).mono ?_
  rintro e w1 ⟨rfl, hb⟩
  have B1 : Below w.heap.size w w1 := Below.andThen (by repeat (first | exact Below.refl _ _ | apply Below.drew | apply Below.al)) hb
  have g4 : w1.heap[w.heap.size]? = some (.cells (frC 0 0 0 0 0 0 0 0 0 0 false) 37 (0, 0)) := blk11 hb (ext11 (at11 _ _ _ rfl))
  clear hb MK
  go_wp2_with (refine wpList_store_row rfl 37 _ _ rfl w.heap.size (frC (1792 + a) 1 s 0 0 0 0 0 0 0 false) rfl rfl 37 _ ((Below.heap_alloc _ _ _ (lt_of_heap g4)).trans g4) infoF rfl (frC_one _ _ _ _ _ _ _ _ _ _ _) ?_)
  have hc := fun (o : Obj) j => cell_of_row ((w1.alloc o).setRow w.heap.size (frC (1792 + a) 1 s 0 0 0 0 0 0 0 false)) w.heap.size j _ _ _ (setRow_heap _ _ _ _ _ _ (ext11 g4))
  refine bodyPost_ret (v := beV a s) ?_ rfl ⟨rfl, below_setRow (Below.al B1 _) (Nat.le_refl _) _⟩
  simp [results, Try.results34, go_sem, hc]
#print axioms beat_any
end Go.Proofs.Ytjdfacjfpdfafaa
