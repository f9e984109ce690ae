/-
  A byte of a row of eight is written.
-/
import Derived.Test.YtlnlejdjekbipaaRf
namespace Go.Proofs.Ytlnlejdjekbipaa
open Go.RowKit

theorem store1 (w : World) (B j : Nat) (x : Int) (C D : Array Value) (T : TypeId) (h : w.heap[B]? = some (.cells C T (0, 0))) (hC : C.size = 8) (hj : j < 8) (hD : (C.toList.take j ++ [Value.int .u8 x] ++ C.toList.drop (j + 1)).toArray = D) : (storeVar 5 ⟨B, j, none⟩ (.int .u8 x)).run Try.prog w = .ok () (w.setRow B D) := by
  subst hD
  have he : (Try.prog.info? 5).map (·.size) = some 1 := by kernel_rfl
  cases hq : Try.prog.info? 5 with
  | none => simp [hq] at he
  | some i =>
    have hi : i.size = 1 := by simpa [hq] using he
    have := run_storeCells_at Try.prog B j T [.int .u8 x] 0 C w h (by simp; omega) (by simp [Value.oneCell'])
    simpa [storeVar, Value.cells, sizeOf, typeInfo, hq, hi, Result.andThen] using this
theorem e0_doc (m : Int) (h0 : 0 ≤ m) (h7 : m ≤ 7) : IntKind.i64.wrap (193 + IntKind.i64.wrap (4 * m)) % 256 = bits .or .u8 193 (m * 4) := by
  obtain rfl | rfl | rfl | rfl | rfl | rfl | rfl | rfl : m = 0 ∨ m = 1 ∨ m = 2 ∨ m = 3 ∨ m = 4 ∨ m = 5 ∨ m = 6 ∨ m = 7 := by omega
  all_goals decide +kernel
theorem heap_last {w : World} {X : World} (_h : Below w.heap.size w X) (o : Obj) (j : Nat) (h : j = X.heap.size) : (X.alloc o).heap[j]? = some o := heap_at X o j h
end Go.Proofs.Ytlnlejdjekbipaa
