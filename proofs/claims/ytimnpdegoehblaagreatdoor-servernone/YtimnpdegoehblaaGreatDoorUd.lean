/-
  The frame of a command that is asked.
-/
import Derived.Test.YtimnpdegoehblaaGreatDoorUc
namespace Go.Proofs.YtimnpdegoehblaaGreatDoor
open Go.RowKit

theorem build1 (w : World) (i n d0 d1 d2 d3 d4 d5 d6 d7 : Int) (r : Bool) :
    (Instr.buildSlice 31 1 #[(0, frV i n d0 d1 d2 d3 d4 d5 d6 d7 r)]).run Tryz.prog w = .ok (.slice (some ⟨w.heap.size, 0, none⟩) 1 1) (w.alloc (.cells (frC i n d0 d1 d2 d3 d4 d5 d6 d7 r) 25)) := by
  kernel_rfl
theorem wpList_build1 {ops : Array Oper} {rest : List Oper} {o : Oper} {a : Act} {w : World} {Q : Exit → Act → World → Prop} {i n d0 d1 d2 d3 d4 d5 d6 d7 : Int} {r : Bool} (hgd : o.guard = none) (x : Operand)
    (ho : o.op = .buildSlice 31 1 #[(0, x)]) (hx : a.eval x = frV i n d0 d1 d2 d3 d4 d5 d6 d7 r)
    (h : wpList Tryz.prog ops Q rest (a.put o.dst (.slice (some ⟨w.heap.size, 0, none⟩) 1 1)) (w.alloc (.cells (frC i n d0 d1 d2 d3 d4 d5 d6 d7 r) 25))) : wpList Tryz.prog ops Q (o :: rest) a w := by
  refine wpList_plain hgd fun K hK => ?_
  unfold Oper.wp execOp
  simp only [ho, List.map_toArray, List.map_cons, List.map_nil, hx, build1, Sem.run_bind, Result.andThen_ok]
  exact hK _ _ h

/-- One frame is told. -/
def OnePost (w : World) (FC : Array Value) (e : Ending) (w' : World) : Prop := ∃ g, e = .returned (.slice (some ⟨g, 0, none⟩) 1 1) ∧ w.heap.size ≤ g ∧ w'.heap[g]? = some (.cells FC 25 (0, 0)) ∧ Below w.heap.size w w'

end Go.Proofs.YtimnpdegoehblaaGreatDoor
