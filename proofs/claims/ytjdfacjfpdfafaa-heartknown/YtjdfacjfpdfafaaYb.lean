/-
  Worlds of which only some blocks are touched.
-/
import Derived.Test.YtjdfacjfpdfafaaYa
import Derived.Lib.ReflectliteSwap
import Derived.Deep.AppendSrc
namespace Go.Proofs.Ytjdfacjfpdfafaa
open Go.RowKit

/-- Only blocks of a list are touched, and new ones are laid. -/
structure Kp (S : List Nat) (w w' : World) : Prop where
  os : w'.os = w.os
  tape : w'.tape = w.tape
  output : w'.output = w.output
  size : w.heap.size ≤ w'.heap.size
  block : ∀ k, k < w.heap.size → k ∉ S → w'.heap[k]? = w.heap[k]?
theorem Kp.refl (S : List Nat) (w : World) : Kp S w w := ⟨rfl, rfl, rfl, Nat.le_refl _, fun _ _ _ => rfl⟩
theorem Kp.trans {S : List Nat} {a b c : World} (h : Kp S a b) (k : Kp S b c) : Kp S a c :=
  ⟨k.os.trans h.os, k.tape.trans h.tape, k.output.trans h.output, Nat.le_trans h.size k.size, fun i hi hs => (k.block i (Nat.lt_of_lt_of_le hi h.size) hs).trans (h.block i hi hs)⟩
theorem Kp.more {S S' : List Nat} {a b : World} (h : Kp S a b) (hs : ∀ k ∈ S, k ∈ S') : Kp S' a b := ⟨h.os, h.tape, h.output, h.size, fun i hi hn => h.block i hi (fun hm => hn (hs i hm))⟩
theorem Kp.of {S : List Nat} {a b : World} (h : Below a.heap.size a b) : Kp S a b := ⟨h.os, h.tape, h.output, h.size, fun i hi _ => h.block i hi⟩
theorem Kp.al {S : List Nat} {a b : World} (h : Kp S a b) (o : Obj) : Kp S a (b.alloc o) := h.trans (Kp.of (Below.al (Below.refl _ _) o))
theorem Kp.drew {S : List Nat} {a b : World} (h : Kp S a b) : Kp S a b.drew := ⟨h.os, h.tape, h.output, h.size, h.block⟩
theorem Kp.set {S : List Nat} {a b : World} (h : Kp S a b) (p : Addr) (v : Value) (hp : p.block ∈ S ∨ a.heap.size ≤ p.block) : Kp S a (b.setCell p v) := by
  have hs : (b.setCell p v).heap.size = b.heap.size := by simp [World.setCell]
  refine ⟨h.os, h.tape, h.output, by rw [hs]; exact h.size, fun k hk hn => ?_⟩
  rw [Below.heap_setCell _ _ _ _ (fun e => by subst e; rcases hp with hp | hp; exact hn hp; omega)]
  exact h.block k hk hn
theorem Kp.row {S : List Nat} {a b : World} (h : Kp S a b) (g : Nat) (c : Array Value) (hp : g ∈ S ∨ a.heap.size ≤ g) : Kp S a (b.setRow g c) := by
  refine ⟨h.os, h.tape, h.output, by rw [size_setRow]; exact h.size, fun k hk hn => ?_⟩
  rw [setRow_other _ _ _ _ (fun e => by subst e; rcases hp with hp | hp; exact hn hp; omega)]
  exact h.block k hk hn
theorem Kp.below {S : List Nat} {N : Nat} {a b c : World} (h : Below N a b) (k : Kp S b c) (hN : N ≤ b.heap.size) (hs : ∀ i ∈ S, N ≤ i) : Below N a c :=
  ⟨k.os.trans h.os, k.tape.trans h.tape, k.output.trans h.output, Nat.le_trans h.size k.size, fun i hi => (k.block i (Nat.lt_of_lt_of_le hi hN) (fun hm => absurd (hs i hm) (by omega))).trans (h.block i hi)⟩
/-- Blocks that were new ahead need not be told. -/
theorem Kp.fresh {S S' : List Nat} {a b c : World} (h : Kp S a b) (k : Kp S' b c) (hs : ∀ i ∈ S', i ∈ S ∨ a.heap.size ≤ i) : Kp S a c :=
  ⟨k.os.trans h.os, k.tape.trans h.tape, k.output.trans h.output, Nat.le_trans h.size k.size, fun i hi hn => (k.block i (Nat.lt_of_lt_of_le hi h.size) (fun hm => (hs i hm).elim hn (fun h => by omega))).trans (h.block i hi hn)⟩

theorem Kp.bel {w w' : World} (h : Kp [] w w') : Below w.heap.size w w' := ⟨h.os, h.tape, h.output, h.size, fun k hk => h.block k hk (by simp)⟩
theorem lt_of_heap {w : World} {k : Nat} {o : Obj} (h : w.heap[k]? = some o) : k < w.heap.size := (Array.getElem?_eq_some_iff.1 h).1



theorem Kp.cell {S : List Nat} {a b : World} (h : Kp S a b) {p : Addr} {v : Value} (hc : a.cell? p = some v) (hp : p.block ∉ S) : b.cell? p = some v := by
  have hl : p.block < a.heap.size := block_lt_of_cell hc
  have hb := h.block p.block hl hp
  rw [← hc]
  simp only [World.cell?, hb]
theorem w64 (z : Int) (h0 : -9223372036854775808 ≤ z) (h1 : z < 9223372036854775808) : IntKind.i64.wrap z = z := by rw [IntKind.wrap_i64]; omega
theorem ext11 {W : World} {j : Nat} {o v : Obj} (h : W.heap[j]? = some v) : (W.alloc o).heap[j]? = some v := (Below.heap_alloc _ _ _ (Array.getElem?_eq_some_iff.1 h).1).trans h
theorem at11 (w : World) (o : Obj) (j : Nat) (h : j = w.heap.size) : (w.alloc o).heap[j]? = some o := by subst h; exact heap_new w o
theorem blk11 {W W' : World} {j : Nat} {v : Obj} (hb : Below W.heap.size W W') (h : W.heap[j]? = some v) : W'.heap[j]? = some v := (hb.block _ (Array.getElem?_eq_some_iff.1 h).1).trans h
theorem Kp.at {S : List Nat} {W W' : World} {j : Nat} {v : Obj} (hb : Kp S W W') (hj : j ∉ S) (h : W.heap[j]? = some v) : W'.heap[j]? = some v := (hb.block _ (Array.getElem?_eq_some_iff.1 h).1 hj).trans h
theorem froz11 (w : World) (B j : Nat) (C : Array Value) (T : TypeId) (h : w.heap[B]? = some (.cells C T (0, 0))) : w.frozen? ⟨B, j, none⟩ = false := by
  simp [World.frozen?, h]

/-- A part of a row out of memory. -/
theorem load_part (e : TypeId) (k : Nat) (he : (Try.prog.info? e).map (·.size) = some k) (hagg : ∀ w, (isAgg e).run Try.prog w = .ok true w) (w : World) (B o : Nat) (cs : List Value) (t : TypeId) (hb : w.heap[B]? = some (.cells cs.toArray t (0, 0))) (hk : o + k ≤ cs.length) :
    (loadVar e ⟨B, o, none⟩).run Try.prog w = .ok (.agg ((cs.drop o).take k).toArray) w := by
  cases hq : Try.prog.info? e with
  | none => simp [hq] at he
  | some i =>
    have hi : i.size = k := by simpa [hq] using he
    refine Go.Lib.rl_loadVar_cells (P := Try.prog) e i hq hagg B o _ (by simp [hi]; omega) w (fun j v hv => ?_)
    rw [cell_of_row w B (o + j) _ _ _ hb]
    rw [List.getElem?_take] at hv
    split at hv
    · rw [List.getElem?_drop] at hv
      simpa using hv
    · cases hv
/-- A part of a row into memory. -/
theorem store_part (e : TypeId) (k : Nat) (he : (Try.prog.info? e).map (·.size) = some k) (w : World) (B o : Nat) (cur : Array Value) (t : TypeId) (hb : w.heap[B]? = some (.cells cur t (0, 0))) (vs : List Value) (hv : vs.length = k) (hk : o + k ≤ cur.size) (h1 : ∀ v ∈ vs, v.oneCell' = true) :
    (storeVar e ⟨B, o, none⟩ (.agg vs.toArray)).run Try.prog w = .ok () (w.setRow B (cur.toList.take o ++ vs ++ cur.toList.drop (o + vs.length)).toArray) := by
  cases hq : Try.prog.info? e with
  | none => simp [hq] at he
  | some i =>
    have hi : i.size = k := by simpa [hq] using he
    have := run_storeCells_at Try.prog B o t vs 0 cur w hb (by simpa [hv] using hk) h1
    simpa [storeVar, Value.cells, sizeOf, typeInfo, hq, hi, hv, Result.andThen] using this

theorem wp_store_by {o : Oper} {a : Act} {w w' : World} {K : Act → World → Prop} {Q : Exit → Act → World → Prop} (ty : TypeId) (x y : Operand) (ho : o.op = .store ty x y)
    (ad : Addr) (v : Value) (hx : a.eval x = .pointer (some ad)) (hy : a.eval y = v) (hr : (storeVar ty ad v).run Try.prog w = .ok () w')
    (h : K (a.put o.dst undef) w') : o.wp Try.prog a w K Q := by
  unfold Oper.wp execOp
  simp only [ho, hx, hy, Instr.storeAt, Instr.sureAddr, Sem.run_bind, Sem.run_pure, Result.andThen_ok, hr]
  exact h
theorem wpList_store_by {ops : Array Oper} {rest : List Oper} {o : Oper} {a : Act} {w w' : World} {Q : Exit → Act → World → Prop} (hgd : o.guard = none) (ty : TypeId) (x y : Operand) (ho : o.op = .store ty x y)
    (ad : Addr) (v : Value) (hx : a.eval x = .pointer (some ad)) (hy : a.eval y = v) (hr : (storeVar ty ad v).run Try.prog w = .ok () w')
    (h : wpList Try.prog ops Q rest (a.put o.dst undef) w') : wpList Try.prog ops Q (o :: rest) a w :=
  wpList_plain hgd fun _ hK => wp_store_by ty x y ho ad v hx hy hr (hK _ _ h)
theorem wp_load_by {o : Oper} {a : Act} {w : World} {K : Act → World → Prop} {Q : Exit → Act → World → Prop} (ty : TypeId) (x : Operand) (ho : o.op = .load ty x)
    (ad : Addr) (v : Value) (hx : a.eval x = .pointer (some ad)) (hr : (loadVar ty ad).run Try.prog w = .ok v w)
    (h : K (a.put o.dst v) w) : o.wp Try.prog a w K Q := by
  unfold Oper.wp execOp
  simp only [ho, hx, Instr.loadAt, Instr.sureAddr, Sem.run_bind, Sem.run_pure, Result.andThen_ok, hr]
  exact h
theorem wpList_load_by {ops : Array Oper} {rest : List Oper} {o : Oper} {a : Act} {w : World} {Q : Exit → Act → World → Prop} (hgd : o.guard = none) (ty : TypeId) (x : Operand) (ho : o.op = .load ty x)
    (ad : Addr) (v : Value) (hx : a.eval x = .pointer (some ad)) (hr : (loadVar ty ad).run Try.prog w = .ok v w)
    (h : wpList Try.prog ops Q rest (a.put o.dst v) w) : wpList Try.prog ops Q (o :: rest) a w :=
  wpList_plain hgd fun _ hK => wp_load_by ty x ho ad v hx hr (hK _ _ h)

theorem aggF (w : World) : (isAgg 37).run Try.prog w = .ok true w := by kernel_rfl
theorem loadF (w : World) (B : Nat) (i n d0 d1 d2 d3 d4 d5 d6 d7 : Int) (r : Bool) (h : w.heap[B]? = some (.cells (frC i n d0 d1 d2 d3 d4 d5 d6 d7 r) 37 (0, 0))) : (loadVar 37 ⟨B, 0, none⟩).run Try.prog w = .ok (frV i n d0 d1 d2 d3 d4 d5 d6 d7 r) w :=
  load_part 37 11 infoF aggF w B 0 [.int .u16 i, .int .i64 n, .int .u8 d0, .int .u8 d1, .int .u8 d2, .int .u8 d3, .int .u8 d4, .int .u8 d5, .int .u8 d6, .int .u8 d7, .bool r] 37 h (by simp)
theorem cset11 {W : World} {p u o : Nat} {C : Array Value} {T : TypeId} {x v : Value} (h : W.heap[p]? = some (.cells C T (0, 0))) (hv : (C.setIfInBounds u x)[o]? = some v) : (W.setCell ⟨p, u, none⟩ x).cell? ⟨p, o, none⟩ = some v := by
  rw [cell_of_row _ p o _ _ _ (heap_setCell_same _ _ _ _ _ _ h)]; exact hv
theorem sr11 {W : World} {B p o : Nat} {C : Array Value} {v : Value} (hne : p ≠ B) (h : W.cell? ⟨p, o, none⟩ = some v) : (W.setRow B C).cell? ⟨p, o, none⟩ = some v := by
  rw [World.cell?_of_block (setRow_other _ _ _ _ hne)]; exact h
theorem sh11 {W : World} {B p : Nat} {C : Array Value} {v : Obj} (hne : p ≠ B) (h : W.heap[p]? = some v) : (W.setRow B C).heap[p]? = some v := (setRow_other _ _ _ _ hne).trans h
theorem cell11 {W : World} {p q o : Nat} {v x : Value} (hne : q ≠ p) {u : Nat} (h : W.cell? ⟨q, o, none⟩ = some v) : (W.setCell ⟨p, u, none⟩ x).cell? ⟨q, o, none⟩ = some v :=
  Kp.cell (S := [p]) (Kp.set (Kp.refl _ _) _ _ (.inl (by simp))) h (by simpa using hne)
end Go.Proofs.Ytjdfacjfpdfafaa
