/-
  The walks of the program's small functions: isTime, isNode, crowded, Stands, Due; the document's time, Due.
-/
import Derived.Test.YtnbdnmfnmnboiaaZc
namespace Go.Proofs.Ytnbdnmfnmnboiaa
open Go.RowKit

/-- Is it a time? -/
def tmB (n : Int) : Bool := decide (0 ≤ n) && decide (n ≤ 1099511627776)
theorem tmB_t {n : Int} (h0 : 0 ≤ n) (h1 : n ≤ 1099511627776) : tmB n = true := by simp [tmB, h0, h1]
theorem tmB_f {n : Int} (h : n < 0 ∨ 1099511627776 < n) : tmB n = false := by simp [tmB]; omega
theorem tmB_of {n : Int} (h : tmB n = true) : 0 ≤ n ∧ n ≤ 1099511627776 := by simpa [tmB] using h
theorem tmB_no {n : Int} (h : tmB n = false) : n < 0 ∨ 1099511627776 < n := by simp [tmB] at h; omega

set_option linter.unusedSimpArgs false in
set_option maxHeartbeats 4000000 in
set_option maxRecDepth 100000 in
theorem isTime_any (n : Int) (w : World) : Calls Try.prog 25 #[.int .i64 n] w fun e w' => e = .returned (.bool (tmB n)) ∧ w' = w := by
  by_cases h0 : n < 0
  · go_enter Try.func25, Try.ntmps25
    go_wp2_with fail
    go_ret
    exact ⟨ret_bool (by rw [Bool.eq_iff_iff]; first | (simp [tmB]; done) | (simp [tmB]; omega)), rfl⟩
  · by_cases h1 : 1099511627776 < n
    · go_enter Try.func25, Try.ntmps25
      go_wp2_with fail
      go_ret
      exact ⟨ret_bool (by rw [Bool.eq_iff_iff]; first | (simp [tmB]; done) | (simp [tmB]; omega)), rfl⟩
    · go_enter Try.func25, Try.ntmps25
      go_wp2_with fail
      go_ret
      exact ⟨ret_bool (by rw [Bool.eq_iff_iff]; first | (simp [tmB]; done) | (simp [tmB]; omega)), rfl⟩

set_option linter.unusedSimpArgs false in
set_option maxHeartbeats 4000000 in
set_option maxRecDepth 100000 in
theorem time_any (n : Int) (w : World) : Calls Try.prog 26 #[.int .i64 n] w fun e w' => e = .returned (.bool (tmB n)) ∧ w' = w := by
  by_cases h0 : n < 0
  · go_enter Try.func26, Try.ntmps26
    go_wp2_with fail
    go_ret
    exact ⟨ret_bool (by rw [Bool.eq_iff_iff]; first | (simp [tmB]; done) | (simp [tmB]; omega)), rfl⟩
  · by_cases h1 : 1099511627776 < n
    · go_enter Try.func26, Try.ntmps26
      go_wp2_with fail
      go_ret
      exact ⟨ret_bool (by rw [Bool.eq_iff_iff]; first | (simp [tmB]; done) | (simp [tmB]; omega)), rfl⟩
    · go_enter Try.func26, Try.ntmps26
      go_wp2_with fail
      go_ret
      exact ⟨ret_bool (by rw [Bool.eq_iff_iff]; first | (simp [tmB]; done) | (simp [tmB]; omega)), rfl⟩

/-- Is it a node? -/
def ndB (a : Int) : Bool := decide (1 ≤ a) && decide (a ≤ 127)
set_option linter.unusedSimpArgs false in
set_option maxHeartbeats 4000000 in
set_option maxRecDepth 100000 in
theorem isNode_any (a : Int) (w : World) : Calls Try.prog 24 #[.int .u8 a] w fun e w' => e = .returned (.bool (ndB a)) ∧ w' = w := by
  by_cases h0 : a < 1
  · go_enter Try.func24, Try.ntmps24
    go_wp2_with fail
    go_ret
    exact ⟨ret_bool (by simp [ndB]; omega), rfl⟩
  · go_enter Try.func24, Try.ntmps24
    go_wp2_with fail
    go_ret
    exact ⟨ret_bool (by rw [Bool.eq_iff_iff]; simp [ndB]; omega), rfl⟩
set_option linter.unusedSimpArgs false in
set_option maxHeartbeats 4000000 in
set_option maxRecDepth 100000 in
theorem crowded_any {w : World} {p m : Nat} {v : Value} {S : ES} (h : IsE w p m v S) : Calls Try.prog 35 #[.pointer (some ⟨p, 0, none⟩)] w fun e w' => e = .returned (.bool (decide (16 ≤ S.ws.length))) ∧ w' = w := by
  obtain ⟨a, cap, rfl⟩ := h.row.form
  have k20 := h.c20
  obtain ⟨N, hN⟩ : ∃ N, N = S.ws.length := ⟨_, rfl⟩
  rw [← hN] at k20 ⊢
  clear hN h
  go_enter Try.func35, Try.ntmps35
  go_wp2_with fail
  go_ret
  exact ⟨ret_bool (by rw [Bool.eq_iff_iff]; simp; try omega), rfl⟩
set_option linter.unusedSimpArgs false in
set_option maxHeartbeats 4000000 in
set_option maxRecDepth 100000 in
theorem stands_any {w : World} {p m : Nat} {v : Value} {S : ES} (h : IsE w p m v S) (c : Int) : Calls Try.prog 23 #[.pointer (some ⟨p, 0, none⟩), .int .u16 c] w fun e w' => e = .returned (.bool (S.has c)) ∧ w' = w := by
  have k2 := h.c2
  have LK := look_run w m _ c h.map
  obtain ⟨r, hr⟩ : ∃ r, Hid (S.has c = r) := ⟨_, rfl⟩
  have e0 : (lookM (msk S.st) c).isSome = r := hr.out
  rw [e0] at LK
  rw [hr.out]
  generalize (lookM (msk S.st) c).getD 0 = u at LK
  clear e0 h
  go_enter Try.func23, Try.ntmps23
  go_wp2_with fail
  go_ret
  exact ⟨rfl, rfl⟩
set_option linter.unusedSimpArgs false in
set_option maxHeartbeats 4000000 in
set_option maxRecDepth 100000 in
theorem due_no {w : World} {p m : Nat} {v : Value} {S : ES} (h : IsE w p m v S) (h0 : S.ws = []) : Calls Try.prog 18 #[.pointer (some ⟨p, 0, none⟩)] w fun e w' => e = .returned (.tuple #[.int .i64 0, .bool false]) ∧ w' = w := by
  obtain ⟨a, cap, rfl⟩ := h.row.form
  have k20 := h.c20
  rw [h0] at k20
  have k21 := h.c21
  simp only [List.length_nil] at k20
  clear h h0
  go_enter Try.func18, Try.ntmps18
  go_wp2_with fail
  exact bodyPost_ret (v := .tuple #[.int .i64 0, .bool false]) (by simp [results, Try.results18, go_sem]) rfl ⟨rfl, rfl⟩
set_option linter.unusedSimpArgs false in
set_option maxHeartbeats 4000000 in
set_option maxRecDepth 100000 in
theorem due_yes {w : World} {p m : Nat} {v : Value} {S : ES} (h : IsE w p m v S) (h0 : S.ws ≠ []) : Calls Try.prog 18 #[.pointer (some ⟨p, 0, none⟩)] w fun e w' => e = .returned (.tuple #[.int .i64 S.due, .bool true]) ∧ w' = w := by
  obtain ⟨a, cap, rfl⟩ := h.row.form
  have k20 := h.c20
  have k21 := h.c21
  obtain ⟨N, hN⟩ : ∃ N, N = S.ws.length := ⟨_, rfl⟩
  rw [← hN] at k20
  have n0 : ¬ (N : Int) = 0 := by intro e; apply h0; apply List.eq_nil_of_length_eq_zero; omega
  clear hN h h0
  go_enter Try.func18, Try.ntmps18
  go_wp2_with fail
  exact bodyPost_ret (v := .tuple #[.int .i64 S.due, .bool true]) (by simp [results, Try.results18, go_sem]) rfl ⟨rfl, rfl⟩
#print axioms stands_any
#print axioms due_yes
end Go.Proofs.Ytnbdnmfnmnboiaa
