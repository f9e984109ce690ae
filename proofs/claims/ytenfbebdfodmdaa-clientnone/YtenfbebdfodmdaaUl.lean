/-
  The commands and answers of the example.
-/
import Derived.Test.YtenfbebdfodmdaaSv
import Derived.Test.YtenfbebdfodmdaaSx
namespace Go.Proofs.Ytenfbebdfodmdaa
open Go.RowKit

def cW : Cm := ⟨1, 8192, 1, true, 0, true, [7], false, false, false, 0, 0, 0, 0, 0⟩
def cR : Cm := ⟨3, 8192, 1, false, 0, false, [], false, false, false, 0, 0, 0, 0, 0⟩
def dW : Cm := ⟨1, 8192, 1, false, 0, false, [], false, false, false, 0, 0, 0, 0, 0⟩
def dR : Cm := ⟨3, 8192, 1, true, 0, true, [7], false, false, false, 0, 0, 0, 0, 0⟩
theorem okcW : cW.Ok := by constructor <;> first | decide | (intro n hn; simp [cW] at hn; omega)
theorem okcR : cR.Ok := by constructor <;> first | decide | (intro n hn; simp [cR] at hn)
theorem okdW : dW.Ok := by constructor <;> first | decide | (intro n hn; simp [dW] at hn)
theorem okdR : dR.Ok := by constructor <;> first | decide | (intro n hn; simp [dR] at hn; omega)
theorem eW : askP cW = some ⟨47, 0, 32, 1, 7, 0, 0, 0⟩ := by decide +kernel
theorem eR : askP cR = some ⟨64, 0, 32, 1, 0, 0, 0, 0⟩ := by decide +kernel
theorem fW : ansP dW = some ⟨96, 0, 32, 1, 0, 0, 0, 0⟩ := by decide +kernel
theorem fR : ansP dR = some ⟨79, 0, 32, 1, 7, 0, 0, 0⟩ := by decide +kernel
theorem nW : answeredP ⟨96, 0, 32, 1, 0, 0, 0, 0⟩ = some dW := by decide +kernel
theorem nR : answeredP ⟨79, 0, 32, 1, 7, 0, 0, 0⟩ = some dR := by decide +kernel

theorem askW (a : Option Addr) (W : World) (hr : Row W a 1 [7]) : Calls Try.prog 36 #[cmV 1 8192 1 true 0 true a 1 1 false false false 0 0 0 0 0] W fun e w' => e = .returned (.tuple #[arr8 47 0 32 1 7 0 0 0, .int .i64 0]) ∧ Below W.heap.size W w' := by
  have := ask_any cW okcW a 1 W hr
  rw [eW] at this
  exact this
theorem askR11 (W : World) : Calls Try.prog 36 #[cmV 3 8192 1 false 0 false none 0 0 false false false 0 0 0 0 0] W fun e w' => e = .returned (.tuple #[arr8 64 0 32 1 0 0 0 0, .int .i64 0]) ∧ Below W.heap.size W w' := by
  have := ask_any cR okcR none 0 W (row_nil _)
  rw [eR] at this
  exact this
theorem ansW (W : World) : Calls Try.prog 35 #[cmV 1 8192 1 false 0 false none 0 0 false false false 0 0 0 0 0] W fun e w' => e = .returned (.tuple #[arr8 96 0 32 1 0 0 0 0, .int .i64 0]) ∧ Below W.heap.size W w' := by
  have := answer_any dW okdW none 0 W (row_nil _)
  rw [fW] at this
  exact this
theorem ansR11 (a : Option Addr) (W : World) (hr : Row W a 1 [7]) : Calls Try.prog 35 #[cmV 3 8192 1 true 0 true a 1 1 false false false 0 0 0 0 0] W fun e w' => e = .returned (.tuple #[arr8 79 0 32 1 7 0 0 0, .int .i64 0]) ∧ Below W.heap.size W w' := by
  have := answer_any dR okdR a 1 W hr
  rw [fR] at this
  exact this
theorem adW (W : World) : Calls Try.prog 31 #[arr8 96 0 32 1 0 0 0 0] W fun e w' => ∃ a2 cap2, e = .returned (.tuple #[cmV 1 8192 1 false 0 false a2 0 cap2 false false false 0 0 0 0 0, .int .i64 0]) ∧ Below W.heap.size W w' := by
  have := answered_any ⟨96, 0, 32, 1, 0, 0, 0, 0⟩ (by constructor <;> decide) W
  rw [nW] at this
  refine Calls.mono this ?_
  rintro e w' ⟨a, cap, rfl, _, hb⟩
  exact ⟨a, cap, rfl, hb⟩
theorem adR (W : World) : Calls Try.prog 31 #[arr8 79 0 32 1 7 0 0 0] W fun e w' => ∃ a2 cap2, e = .returned (.tuple #[cmV 3 8192 1 true 0 true a2 1 cap2 false false false 0 0 0 0 0, .int .i64 0]) ∧ Told W w' a2 1 cap2 [7] ∧ Below W.heap.size W w' := by
  have := answered_any ⟨79, 0, 32, 1, 7, 0, 0, 0⟩ (by constructor <;> decide) W
  rw [nR] at this
  exact this

end Go.Proofs.Ytenfbebdfodmdaa
