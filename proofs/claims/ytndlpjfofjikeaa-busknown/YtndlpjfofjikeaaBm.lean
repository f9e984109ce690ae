/-
  The methods that the heap and the sort ask for, by their names.
-/
import Derived.Test.YtndlpjfofjikeaaBq
namespace Go.Proofs.Ytndlpjfofjikeaa
open Go.RowKit

set_option maxRecDepth 100000 in
theorem meth_push (K : Nat) (hK : 0 < K) (p : Nat) (w : World) : (method K 69 (.pointer (some ⟨p, 0, none⟩)) "Push").run Try.prog w = .ok (85, .pointer (some ⟨p, 0, none⟩)) w := by
  obtain ⟨k, rfl⟩ : ∃ k, K = k + 1 := ⟨K - 1, by omega⟩
  kernel_rfl

set_option maxRecDepth 100000 in
theorem meth_pop (K : Nat) (hK : 0 < K) (p : Nat) (w : World) : (method K 69 (.pointer (some ⟨p, 0, none⟩)) "Pop").run Try.prog w = .ok (84, .pointer (some ⟨p, 0, none⟩)) w := by
  obtain ⟨k, rfl⟩ : ∃ k, K = k + 1 := ⟨K - 1, by omega⟩
  kernel_rfl

set_option maxRecDepth 100000 in
theorem meth_len (K : Nat) (hK : 0 < K) (p : Nat) (w : World) (v : Value) (h : w.cell? ⟨p, 0, none⟩ = some v) : (method K 69 (.pointer (some ⟨p, 0, none⟩)) "Len").run Try.prog w = .ok (26, v) w := by
  obtain ⟨k, rfl⟩ : ∃ k, K = k + 1 := ⟨K - 1, by omega⟩
  have : (method (k + 1) 69 (.pointer (some ⟨p, 0, none⟩)) "Len").run Try.prog w = ((loadVar 57 ⟨p, 0, none⟩) >>= fun x => pure (26, x)).run Try.prog w := by kernel_rfl
  rw [this]
  simp [go_sem, h]

set_option maxRecDepth 100000 in
theorem meth_less (K : Nat) (hK : 0 < K) (p : Nat) (w : World) (v : Value) (h : w.cell? ⟨p, 0, none⟩ = some v) : (method K 69 (.pointer (some ⟨p, 0, none⟩)) "Less").run Try.prog w = .ok (80, v) w := by
  obtain ⟨k, rfl⟩ : ∃ k, K = k + 1 := ⟨K - 1, by omega⟩
  have : (method (k + 1) 69 (.pointer (some ⟨p, 0, none⟩)) "Less").run Try.prog w = ((loadVar 57 ⟨p, 0, none⟩) >>= fun x => pure (80, x)).run Try.prog w := by kernel_rfl
  rw [this]
  simp [go_sem, h]

set_option maxRecDepth 100000 in
theorem meth_swap (K : Nat) (hK : 0 < K) (p : Nat) (w : World) (v : Value) (h : w.cell? ⟨p, 0, none⟩ = some v) : (method K 69 (.pointer (some ⟨p, 0, none⟩)) "Swap").run Try.prog w = .ok (81, v) w := by
  obtain ⟨k, rfl⟩ : ∃ k, K = k + 1 := ⟨K - 1, by omega⟩
  have : (method (k + 1) 69 (.pointer (some ⟨p, 0, none⟩)) "Swap").run Try.prog w = ((loadVar 57 ⟨p, 0, none⟩) >>= fun x => pure (81, x)).run Try.prog w := by kernel_rfl
  rw [this]
  simp [go_sem, h]

set_option maxRecDepth 100000 in
theorem meth_lenV (K : Nat) (hK : 0 < K) (a : Option Addr) (n c : Nat) (w : World) : (method K 59 (.agg #[.slice a n c]) "Len").run Try.prog w = .ok (26, .slice a n c) w := by
  obtain ⟨k, rfl⟩ : ∃ k, K = k + 1 := ⟨K - 1, by omega⟩
  kernel_rfl
#print axioms meth_less
end Go.Proofs.Ytndlpjfofjikeaa
