/-
  Groups as one value: laid, built, stored.
-/
import Derived.Test.YtgpbmccjcjoijaaJh
namespace Go.Proofs.Ytgpbmccjcjoijaa
open Go.RowKit

/-- The cells of no groups. -/
def z48 : Array Value := (gflat all0 ss0).toArray
theorem z48_lit : (#[.bool false, .bool false, .slice none 0 0, .bool false, .bool false, .slice none 0 0, .bool false, .bool false, .slice none 0 0, .bool false, .bool false, .slice none 0 0, .bool false, .bool false, .slice none 0 0, .bool false, .bool false, .slice none 0 0, .bool false, .bool false, .slice none 0 0, .bool false, .bool false, .slice none 0 0, .bool false, .bool false, .slice none 0 0, .bool false, .bool false, .slice none 0 0, .bool false, .bool false, .slice none 0 0, .bool false, .bool false, .slice none 0 0, .bool false, .bool false, .slice none 0 0, .bool false, .bool false, .slice none 0 0, .bool false, .bool false, .slice none 0 0, .bool false, .bool false, .slice none 0 0] : Array Value) = z48 := rfl
theorem zero68 : ∀ w, (zeroValue 68).run Try.prog w = .ok (.agg z48) w := fun w => by
  have := (zero_of_info (P := Try.prog) (t := 68) (v := .agg #[.bool false, .bool false, .slice none 0 0, .bool false, .bool false, .slice none 0 0, .bool false, .bool false, .slice none 0 0, .bool false, .bool false, .slice none 0 0, .bool false, .bool false, .slice none 0 0, .bool false, .bool false, .slice none 0 0, .bool false, .bool false, .slice none 0 0, .bool false, .bool false, .slice none 0 0, .bool false, .bool false, .slice none 0 0, .bool false, .bool false, .slice none 0 0, .bool false, .bool false, .slice none 0 0, .bool false, .bool false, .slice none 0 0, .bool false, .bool false, .slice none 0 0, .bool false, .bool false, .slice none 0 0, .bool false, .bool false, .slice none 0 0, .bool false, .bool false, .slice none 0 0]) (n := 48) (by kernel_rfl)).1 w
  rw [z48_lit] at this
  exact this
theorem run_alloc68 (W : World) : (Instr.alloc 68 true (.tuple #[])).run Try.prog W = .ok (.pointer (some ⟨W.heap.size, 0, none⟩)) (W.alloc (.cells z48 68)) := by kernel_rfl
theorem run_build68 (W : World) : (Instr.build 68 #[]).run Try.prog W = .ok (.agg z48) W := by kernel_rfl
theorem run_box68 (C : Array Value) (W : World) : (Instr.box 68 (.agg C)).run Try.prog W = .ok (.pointer (some ⟨W.heap.size, 0, none⟩)) (W.alloc (.cells C 68)) := by
  simp [Instr.box, newVar, go_sem]
theorem wp_val {o : Oper} {a : Act} {w w' : World} {K : Act → World → Prop} {Q : Exit → Act → World → Prop} {v : Value} (he : (execOp a.eval o).run Try.prog w = .ok (.value v) w') (h : K (a.put o.dst v) w') : o.wp Try.prog a w K Q := by
  unfold Oper.wp
  rw [he]
  exact h
theorem wpList_val {ops : Array Oper} {rest : List Oper} {o : Oper} {a : Act} {w w' : World} {Q : Exit → Act → World → Prop} {v : Value} (hgd : o.guard = none) (he : (execOp a.eval o).run Try.prog w = .ok (.value v) w') (h : wpList Try.prog ops Q rest (a.put o.dst v) w') : wpList Try.prog ops Q (o :: rest) a w :=
  wpList_plain hgd fun _ hK => wp_val he (hK _ _ h)
theorem ex_alloc68 {o : Oper} {a : Act} {w : World} (ho : o.op = .alloc 68) : (execOp a.eval o).run Try.prog w = .ok (.value (.pointer (some ⟨w.heap.size, 0, none⟩))) (w.alloc (.cells z48 68)) := by
  simp only [execOp, ho, Sem.run_bind, Sem.run_pure, Result.andThen_ok, run_alloc68]
theorem ex_build68 {o : Oper} {a : Act} {w : World} (ho : o.op = .build 68 #[]) : (execOp a.eval o).run Try.prog w = .ok (.value (.agg z48)) w := by
  simp only [execOp, ho, Sem.run_bind, Sem.run_pure, Result.andThen_ok, List.map_toArray, List.map_nil, run_build68]
theorem wpList_alloc68 {ops : Array Oper} {rest : List Oper} {o : Oper} {a : Act} {w : World} {Q : Exit → Act → World → Prop} (hgd : o.guard = none) (ho : o.op = .alloc 68) (h : wpList Try.prog ops Q rest (a.put o.dst (.pointer (some ⟨w.heap.size, 0, none⟩))) (w.alloc (.cells z48 68))) : wpList Try.prog ops Q (o :: rest) a w := wpList_val hgd (ex_alloc68 ho) h
theorem wpList_build68 {ops : Array Oper} {rest : List Oper} {o : Oper} {a : Act} {w : World} {Q : Exit → Act → World → Prop} (hgd : o.guard = none) (ho : o.op = .build 68 #[]) (h : wpList Try.prog ops Q rest (a.put o.dst (.agg z48)) w) : wpList Try.prog ops Q (o :: rest) a w := wpList_val hgd (ex_build68 ho) h
theorem store68 {W : World} {gb : Nat} {C : Array Value} (hC : C.size = 48) (hg : W.heap[gb]? = some (.cells C 68 (0, 0))) (all : List Gp) (ss : List SL) (h1 : all.length = 16) (h2 : ss.length = 16) :
    (storeVar 68 ⟨gb, 0, none⟩ (.agg (gflat all ss).toArray)).run Try.prog W = .ok () (W.setRow gb (gflat all ss).toArray) := by
  have hL := gflat48 all ss h1 h2
  have := store_part 68 48 size68 W gb 0 C _ hg (gflat all ss) hL (by omega) (gflat_one all ss)
  rw [this, List.take_zero, List.nil_append, List.drop_of_length_le (by simp [hL, hC]), List.append_nil]
theorem load68 {W : World} {gb : Nat} {all : List Gp} {ss : List SL} (h1 : all.length = 16) (h2 : ss.length = 16) (hg : GB W gb all ss) : (loadVar 68 ⟨gb, 0, none⟩).run Try.prog W = .ok (.agg (gflat all ss).toArray) W := by
  have := load_part 68 48 size68 agg68 W gb 0 (gflat all ss) _ hg (by rw [gflat48 all ss h1 h2]; omega)
  rw [this, List.drop_zero, List.take_of_length_le (by rw [gflat48 all ss h1 h2]; omega)]
#print axioms store68
#print axioms load68
#print axioms wpList_build68
#print axioms wpList_alloc68
#print axioms run_box68
end Go.Proofs.Ytgpbmccjcjoijaa
