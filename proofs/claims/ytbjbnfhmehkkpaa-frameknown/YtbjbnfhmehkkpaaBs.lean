/-
  Three frames in one slice.
-/
import Derived.Test.YtbjbnfhmehkkpaaFr
namespace Go.Proofs.Ytbjbnfhmehkkpaa
open Go.RowKit

/-- Three frames' cells. -/
abbrev frC3 (i n d0 d1 d2 d3 d4 d5 d6 d7 : Int) (r : Bool) (j m e0 e1 e2 e3 e4 e5 e6 e7 : Int) (s : Bool) (k o g0 g1 g2 g3 g4 g5 g6 g7 : Int) (t : Bool) : Array Value :=
  #[.int .u16 i, .int .i64 n, .int .u8 d0, .int .u8 d1, .int .u8 d2, .int .u8 d3, .int .u8 d4, .int .u8 d5, .int .u8 d6, .int .u8 d7, .bool r, .int .u16 j, .int .i64 m, .int .u8 e0, .int .u8 e1, .int .u8 e2, .int .u8 e3, .int .u8 e4, .int .u8 e5, .int .u8 e6, .int .u8 e7, .bool s, .int .u16 k, .int .i64 o, .int .u8 g0, .int .u8 g1, .int .u8 g2, .int .u8 g3, .int .u8 g4, .int .u8 g5, .int .u8 g6, .int .u8 g7, .bool t]

theorem build3 (w : World) (i n d0 d1 d2 d3 d4 d5 d6 d7 : Int) (r : Bool) (j m e0 e1 e2 e3 e4 e5 e6 e7 : Int) (s : Bool) (k o g0 g1 g2 g3 g4 g5 g6 g7 : Int) (t : Bool) :
    (Instr.buildSlice 33 3 #[(0, frV i n d0 d1 d2 d3 d4 d5 d6 d7 r), (1, frV j m e0 e1 e2 e3 e4 e5 e6 e7 s), (2, frV k o g0 g1 g2 g3 g4 g5 g6 g7 t)]).run Try.prog w = .ok (.slice (some ⟨w.heap.size, 0, none⟩) 3 3) (w.alloc (.cells (frC3 i n d0 d1 d2 d3 d4 d5 d6 d7 r j m e0 e1 e2 e3 e4 e5 e6 e7 s k o g0 g1 g2 g3 g4 g5 g6 g7 t) 26)) := by
  kernel_rfl
theorem wpList_build3 {ops : Array Oper} {rest : List Oper} {o : Oper} {a : Act} {w : World} {Q : Exit → Act → World → Prop} {i n d0 d1 d2 d3 d4 d5 d6 d7 : Int} {r : Bool} {j m e0 e1 e2 e3 e4 e5 e6 e7 : Int} {s : Bool} {k p g0 g1 g2 g3 g4 g5 g6 g7 : Int} {t : Bool} (hgd : o.guard = none) (x y z : Operand)
    (ho : o.op = .buildSlice 33 3 #[(0, x), (1, y), (2, z)]) (hx : a.eval x = frV i n d0 d1 d2 d3 d4 d5 d6 d7 r) (hy : a.eval y = frV j m e0 e1 e2 e3 e4 e5 e6 e7 s) (hz : a.eval z = frV k p g0 g1 g2 g3 g4 g5 g6 g7 t)
    (h : wpList Try.prog ops Q rest (a.put o.dst (.slice (some ⟨w.heap.size, 0, none⟩) 3 3)) (w.alloc (.cells (frC3 i n d0 d1 d2 d3 d4 d5 d6 d7 r j m e0 e1 e2 e3 e4 e5 e6 e7 s k p g0 g1 g2 g3 g4 g5 g6 g7 t) 26))) : wpList Try.prog ops Q (o :: rest) a w := by
  refine wpList_plain hgd fun K hK => ?_
  unfold Oper.wp execOp
  simp only [ho, List.map_toArray, List.map_cons, List.map_nil, hx, hy, hz, build3, Sem.run_bind, Result.andThen_ok]
  exact hK _ _ h
#print axioms build3
#print axioms wpList_build3
end Go.Proofs.Ytbjbnfhmehkkpaa
