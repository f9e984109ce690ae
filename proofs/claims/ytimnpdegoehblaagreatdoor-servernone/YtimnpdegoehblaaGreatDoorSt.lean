/-
  The lines of the two tables in memory; the walks of asks and answers.
-/
import Derived.Test.YtimnpdegoehblaaGreatDoorSi
namespace Go.Proofs.YtimnpdegoehblaaGreatDoor
open Go.RowKit

/-- A line of a table: its kind, its first byte, the bits that vary, how it is written, how it is read. -/
structure Ln where
  kind : Int
  first : Int
  vary : Int
  wf : Nat
  rf : Nat
/-- Its cells. -/
def Ln.c (l : Ln) : List Value := [.int .u8 l.kind, .int .u8 l.first, .int .u8 l.vary, .func (.func l.wf) #[] #[], .func (.func l.rf) #[] #[]]
/-- What a client asks. -/
def askT : List Ln := [⟨1, 32, 15, 60, 61⟩, ⟨2, 0, 31, 62, 63⟩, ⟨3, 64, 0, 64, 65⟩, ⟨4, 96, 16, 66, 67⟩, ⟨5, 128, 0, 68, 69⟩, ⟨6, 192, 6, 70, 71⟩, ⟨7, 193, 28, 72, 73⟩, ⟨8, 160, 4, 74, 75⟩, ⟨9, 163, 0, 76, 77⟩, ⟨10, 162, 0, 78, 79⟩, ⟨11, 161, 0, 76, 77⟩]
/-- What a server answers. -/
def ansT : List Ln := [⟨1, 96, 0, 64, 65⟩, ⟨2, 32, 16, 66, 67⟩, ⟨3, 64, 15, 60, 61⟩, ⟨4, 0, 31, 62, 63⟩, ⟨5, 128, 0, 68, 69⟩, ⟨6, 160, 4, 74, 75⟩, ⟨10, 162, 0, 78, 79⟩, ⟨7, 161, 0, 76, 77⟩, ⟨8, 192, 6, 70, 71⟩, ⟨11, 193, 28, 72, 73⟩]
/-- A table in memory. -/
def IsT (w : World) (g : Nat) (tab : List Ln) : Prop := w.heap[g]? = some (.cells (tab.flatMap Ln.c).toArray 105 (0, 0))

set_option linter.unusedSimpArgs false in
set_option maxHeartbeats 4000000 in
set_option maxRecDepth 100000 in
theorem asks_any (w : World) : Calls Tryz.prog 43 #[] w fun e w' => e = .returned (.slice (some ⟨w.heap.size, 0, none⟩) 11 11) ∧ w' = w.alloc (.cells (askT.flatMap Ln.c).toArray 105) := by
  go_enter Tryz.func43, Tryz.ntmps43
  go_wp2_with fail
  go_ret
  exact ⟨rfl, rfl⟩
set_option linter.unusedSimpArgs false in
set_option maxHeartbeats 4000000 in
set_option maxRecDepth 100000 in
theorem answers_any (w : World) : Calls Tryz.prog 57 #[] w fun e w' => e = .returned (.slice (some ⟨w.heap.size, 0, none⟩) 10 10) ∧ w' = w.alloc (.cells (ansT.flatMap Ln.c).toArray 105) := by
  go_enter Tryz.func57, Tryz.ntmps57
  go_wp2_with fail
  go_ret
  exact ⟨rfl, rfl⟩
#print axioms asks_any
#print axioms answers_any
end Go.Proofs.YtimnpdegoehblaaGreatDoor
