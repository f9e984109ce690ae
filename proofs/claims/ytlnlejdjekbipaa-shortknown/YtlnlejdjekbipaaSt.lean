/-
  The lines of the two tables in memory; the walks of asks and answers.
-/
import Derived.Test.YtlnlejdjekbipaaSi
namespace Go.Proofs.Ytlnlejdjekbipaa
open Go.RowKit

/-- A line of a table: its kind, its first byte, the bits that vary, how it is written, how it is read. -/
structure Ln where
  kind : Int
  first : Int
  vary : Int
  wf : Nat
  rf : Nat
/-- Its cells. -/
def Ln.c (l : Ln) : List Value := [.int .u8 l.kind, .int .u8 l.first, .int .u8 l.vary, .func (.func l.wf) #[] #[], .func (.func l.rf) #[] #[]]
/-- What a client asks. -/
def askT : List Ln := [⟨1, 32, 15, 37, 38⟩, ⟨2, 0, 31, 39, 40⟩, ⟨3, 64, 0, 41, 42⟩, ⟨4, 96, 16, 43, 44⟩, ⟨5, 128, 0, 45, 46⟩, ⟨6, 192, 6, 47, 48⟩, ⟨7, 193, 28, 49, 50⟩, ⟨8, 160, 4, 51, 52⟩, ⟨9, 163, 0, 53, 54⟩, ⟨10, 162, 0, 55, 56⟩, ⟨11, 161, 0, 53, 54⟩]
/-- What a server answers. -/
def ansT : List Ln := [⟨1, 96, 0, 41, 42⟩, ⟨2, 32, 16, 43, 44⟩, ⟨3, 64, 15, 37, 38⟩, ⟨4, 0, 31, 39, 40⟩, ⟨5, 128, 0, 45, 46⟩, ⟨6, 160, 4, 51, 52⟩, ⟨10, 162, 0, 55, 56⟩, ⟨7, 161, 0, 53, 54⟩, ⟨8, 192, 6, 47, 48⟩, ⟨11, 193, 28, 49, 50⟩]
/-- A table in memory. -/
def IsT (w : World) (g : Nat) (tab : List Ln) : Prop := w.heap[g]? = some (.cells (tab.flatMap Ln.c).toArray 72 (0, 0))

set_option linter.unusedSimpArgs false in
set_option maxHeartbeats 4000000 in
set_option maxRecDepth 100000 in
theorem asks_any (w : World) : Calls Try.prog 23 #[] w fun e w' => e = .returned (.slice (some ⟨w.heap.size, 0, none⟩) 11 11) ∧ w' = w.alloc (.cells (askT.flatMap Ln.c).toArray 72) := by
  go_enter Try.func23, Try.ntmps23
  go_wp2_with fail
  go_ret
  exact ⟨rfl, rfl⟩
set_option linter.unusedSimpArgs false in
set_option maxHeartbeats 4000000 in
set_option maxRecDepth 100000 in
theorem answers_any (w : World) : Calls Try.prog 26 #[] w fun e w' => e = .returned (.slice (some ⟨w.heap.size, 0, none⟩) 10 10) ∧ w' = w.alloc (.cells (ansT.flatMap Ln.c).toArray 72) := by
  go_enter Try.func26, Try.ntmps26
  go_wp2_with fail
  go_ret
  exact ⟨rfl, rfl⟩
#print axioms asks_any
#print axioms answers_any
end Go.Proofs.Ytlnlejdjekbipaa
