/-
  Rows of cells out of memory and into it, as a whole; eight bytes, and commands.
-/
import Derived.Test.YtimnpdegoehblaaGreatDoorSi
import Derived.Lib.ReflectliteSwap
import Derived.Deep.AppendSrc
namespace Go.Proofs.YtimnpdegoehblaaGreatDoor
open Go.RowKit

/-- A part of a row out of memory. -/
theorem load_part (e : TypeId) (k : Nat) (he : (Tryz.prog.info? e).map (·.size) = some k) (hagg : ∀ w, (isAgg e).run Tryz.prog w = .ok true w) (w : World) (B o : Nat) (cs : List Value) (t : TypeId) (hb : w.heap[B]? = some (.cells cs.toArray t (0, 0))) (hk : o + k ≤ cs.length) :
    (loadVar e ⟨B, o, none⟩).run Tryz.prog w = .ok (.agg ((cs.drop o).take k).toArray) w := by
  cases hq : Tryz.prog.info? e with
  | none => simp [hq] at he
  | some i =>
    have hi : i.size = k := by simpa [hq] using he
    refine Go.Lib.rl_loadVar_cells (P := Tryz.prog) e i hq hagg B o _ (by simp [hi]; omega) w (fun j v hv => ?_)
    rw [cell_of_row w B (o + j) _ _ _ hb]
    rw [List.getElem?_take] at hv
    split at hv
    · rw [List.getElem?_drop] at hv
      simpa using hv
    · cases hv
/-- A part of a row into memory. -/
theorem store_part (e : TypeId) (k : Nat) (he : (Tryz.prog.info? e).map (·.size) = some k) (w : World) (B o : Nat) (cur : Array Value) (t : TypeId) (hb : w.heap[B]? = some (.cells cur t (0, 0))) (vs : List Value) (hv : vs.length = k) (hk : o + k ≤ cur.size) (h1 : ∀ v ∈ vs, v.oneCell' = true) :
    (storeVar e ⟨B, o, none⟩ (.agg vs.toArray)).run Tryz.prog w = .ok () (w.setRow B (cur.toList.take o ++ vs ++ cur.toList.drop (o + vs.length)).toArray) := by
  cases hq : Tryz.prog.info? e with
  | none => simp [hq] at he
  | some i =>
    have hi : i.size = k := by simpa [hq] using he
    have := run_storeCells_at Tryz.prog B o t vs 0 cur w hb (by simpa [hv] using hk) h1
    simpa [storeVar, Value.cells, sizeOf, typeInfo, hq, hi, hv, Result.andThen] using this

theorem wp_store_by {o : Oper} {a : Act} {w w' : World} {K : Act → World → Prop} {Q : Exit → Act → World → Prop} (ty : TypeId) (x y : Operand) (ho : o.op = .store ty x y)
    (ad : Addr) (v : Value) (hx : a.eval x = .pointer (some ad)) (hy : a.eval y = v) (hr : (storeVar ty ad v).run Tryz.prog w = .ok () w')
    (h : K (a.put o.dst undef) w') : o.wp Tryz.prog a w K Q := by
  unfold Oper.wp execOp
  simp only [ho, hx, hy, Instr.storeAt, Instr.sureAddr, Sem.run_bind, Sem.run_pure, Result.andThen_ok, hr]
  exact h
theorem wpList_store_by {ops : Array Oper} {rest : List Oper} {o : Oper} {a : Act} {w w' : World} {Q : Exit → Act → World → Prop} (hgd : o.guard = none) (ty : TypeId) (x y : Operand) (ho : o.op = .store ty x y)
    (ad : Addr) (v : Value) (hx : a.eval x = .pointer (some ad)) (hy : a.eval y = v) (hr : (storeVar ty ad v).run Tryz.prog w = .ok () w')
    (h : wpList Tryz.prog ops Q rest (a.put o.dst undef) w') : wpList Tryz.prog ops Q (o :: rest) a w :=
  wpList_plain hgd fun _ hK => wp_store_by ty x y ho ad v hx hy hr (hK _ _ h)
theorem wp_load_by {o : Oper} {a : Act} {w : World} {K : Act → World → Prop} {Q : Exit → Act → World → Prop} (ty : TypeId) (x : Operand) (ho : o.op = .load ty x)
    (ad : Addr) (v : Value) (hx : a.eval x = .pointer (some ad)) (hr : (loadVar ty ad).run Tryz.prog w = .ok v w)
    (h : K (a.put o.dst v) w) : o.wp Tryz.prog a w K Q := by
  unfold Oper.wp execOp
  simp only [ho, hx, Instr.loadAt, Instr.sureAddr, Sem.run_bind, Sem.run_pure, Result.andThen_ok, hr]
  exact h
theorem wpList_load_by {ops : Array Oper} {rest : List Oper} {o : Oper} {a : Act} {w : World} {Q : Exit → Act → World → Prop} (hgd : o.guard = none) (ty : TypeId) (x : Operand) (ho : o.op = .load ty x)
    (ad : Addr) (v : Value) (hx : a.eval x = .pointer (some ad)) (hr : (loadVar ty ad).run Tryz.prog w = .ok v w)
    (h : wpList Tryz.prog ops Q rest (a.put o.dst v) w) : wpList Tryz.prog ops Q (o :: rest) a w :=
  wpList_plain hgd fun _ hK => wp_load_by ty x ho ad v hx hr (hK _ _ h)

theorem agg8 (w : World) : (isAgg 23).run Tryz.prog w = .ok true w := by kernel_rfl
theorem aggCM (w : World) : (isAgg 61).run Tryz.prog w = .ok true w := by kernel_rfl
theorem load8 (w : World) (B : Nat) (b0 b1 b2 b3 b4 b5 b6 b7 : Int) (T : TypeId) (h : w.heap[B]? = some (.cells (ar8 b0 b1 b2 b3 b4 b5 b6 b7) T (0, 0))) : (loadVar 23 ⟨B, 0, none⟩).run Tryz.prog w = .ok (arr8 b0 b1 b2 b3 b4 b5 b6 b7) w :=
  load_part 23 8 size8 agg8 w B 0 [.int .u8 b0, .int .u8 b1, .int .u8 b2, .int .u8 b3, .int .u8 b4, .int .u8 b5, .int .u8 b6, .int .u8 b7] T h (by simp)
theorem store8 (w : World) (B : Nat) (C : Array Value) (b0 b1 b2 b3 b4 b5 b6 b7 : Int) (T : TypeId) (h : w.heap[B]? = some (.cells C T (0, 0))) (hC : C.size = 8) : (storeVar 23 ⟨B, 0, none⟩ (arr8 b0 b1 b2 b3 b4 b5 b6 b7)).run Tryz.prog w = .ok () (w.setRow B (ar8 b0 b1 b2 b3 b4 b5 b6 b7)) :=
  run_storeVar_row w B T 23 C (ar8 b0 b1 b2 b3 b4 b5 b6 b7) h size8 hC (ar8_one _ _ _ _ _ _ _ _)
theorem loadCM (w : World) (B : Nat) (k i s : Int) (z : Bool) (n : Int) (q : Bool) (a : Option Addr) (len cap : Nat) (t l c : Bool) (b e u m o : Int) (T : TypeId) (h : w.heap[B]? = some (.cells (cmC k i s z n q a len cap t l c b e u m o) T (0, 0))) : (loadVar 61 ⟨B, 0, none⟩).run Tryz.prog w = .ok (cmV k i s z n q a len cap t l c b e u m o) w :=
  load_part 61 15 sizeCM aggCM w B 0 [.int .u8 k, .int .u16 i, .int .u8 s, .bool z, .int .u32 n, .bool q, .slice a len cap, .bool t, .bool l, .bool c, .int .i64 b, .int .i64 e, .int .u16 u, .int .i64 m, .int .u32 o] T h (by simp)
theorem storeCM (w : World) (B : Nat) (C : Array Value) (k i s : Int) (z : Bool) (n : Int) (q : Bool) (a : Option Addr) (len cap : Nat) (t l c : Bool) (b e u m o : Int) (T : TypeId) (h : w.heap[B]? = some (.cells C T (0, 0))) (hC : C.size = 15) : (storeVar 61 ⟨B, 0, none⟩ (cmV k i s z n q a len cap t l c b e u m o)).run Tryz.prog w = .ok () (w.setRow B (cmC k i s z n q a len cap t l c b e u m o)) :=
  run_storeVar_row w B T 61 C (cmC k i s z n q a len cap t l c b e u m o) h sizeCM hC (cmC_one _ _ _ _ _ _ _ _ _ _ _ _ _ _ _ _ _)
#print axioms load8
end Go.Proofs.YtimnpdegoehblaaGreatDoor
