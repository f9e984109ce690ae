/-
  The walks of the document's State, Set and Due.
-/
import Derived.Test.YtjdfacjfpdfafaaHn
import Derived.Test.YtjdfacjfpdfafaaHg
import Derived.Test.YtjdfacjfpdfafaaHh
namespace Go.Proofs.Ytjdfacjfpdfafaa
open Go.RowKit

theorem IsD.c0 {w : World} {q r : Nat} {S : List Nd} (h : IsD w q r S) : w.cell? ⟨q, 0, none⟩ = some (.slice (some ⟨r, 0, none⟩) 128 128) := by rw [cell_of_row w _ 0 _ _ _ h.row]; rfl
theorem rstate_big (q : Nat) (a : Int) (h : 127 < a) (w : World) : Calls Try.prog 42 #[pt q, .int .u8 a] w fun e w' => e = .returned (.tuple #[.int .u8 0, .bool false]) ∧ w' = w := by
  go_enter Try.func42, Try.ntmps42
  go_wp2_with fail
  go_ret2
  exact ⟨rfl, rfl⟩
set_option linter.unusedSimpArgs false in
set_option maxHeartbeats 4000000 in
set_option maxRecDepth 100000 in
theorem rstate_at {w : World} {q r k : Nat} {S : List Nd} (h : IsD w q r S) {x : Nd} (hx : S[k]? = some x) (hk : k ≤ 127) : Calls Try.prog 42 #[pt q, .int .u8 (k : Int)] w fun e w' => e = .returned (.tuple #[.int .u8 (if x.W ≠ 0 ∧ x.on = true then x.s else 0), .bool (decide (x.W ≠ 0) && x.on)]) ∧ w' = w := by
  have c0 := h.c0
  have d0 := h.cell hx 0 _ rfl
  have d1 := h.cell hx 1 _ rfl
  have d2 := h.cell hx 2 _ rfl
  have d3 := h.cell hx 3 _ rfl
  rw [Nat.add_zero] at d0
  have gk : ¬ (127 : Int) < (k : Int) := by omega
  have gk0 : (0 : Int) ≤ (k : Int) := by omega
  have gk1 : (k : Int) < 128 := by omega
  have gn : k < 128 := by omega
  clear h hx hk
  obtain ⟨W, hh, g, s, t⟩ := x
  by_cases hW : W = 0
  · subst hW
    go_enter Try.func42, Try.ntmps42
    go_wp2_with fail
    go_ret2
    exact ⟨rfl, rfl⟩
  have hW2 : (W == 0) = false := by simpa using hW
  cases hh with
  | false =>
    go_enter Try.func42, Try.ntmps42
    go_wp2_with fail
    go_ret2
    exact ⟨by simp [Nd.on], rfl⟩
  | true =>
    cases g with
    | true =>
      go_enter Try.func42, Try.ntmps42
      go_wp2_with fail
      go_ret2
      exact ⟨by simp [Nd.on], rfl⟩
    | false =>
      go_enter Try.func42, Try.ntmps42
      go_wp2_with fail
      go_ret2
      exact ⟨by simp [Nd.on, hW], rfl⟩
#print axioms rstate_at
end Go.Proofs.Ytjdfacjfpdfafaa
