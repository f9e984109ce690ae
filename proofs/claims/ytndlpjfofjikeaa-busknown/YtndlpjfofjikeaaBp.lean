/-
  Rows within rows; blocks that stay; parts of rows out of memory and into it.
-/
import Derived.Test.YtndlpjfofjikeaaBas
import Derived.Deep.WholeRow
import Derived.Deep.AppendSrc
import Derived.Lib.ReflectliteSwap
namespace Go.Proofs.Ytndlpjfofjikeaa
open Go.RowKit

/-- A row within a row, written over. -/
def put {α : Type} (l : List α) (o : Nat) (m : List α) : List α := l.take o ++ m ++ l.drop (o + m.length)
theorem put_len {α : Type} (l m : List α) (o : Nat) (h : o + m.length ≤ l.length) : (put l o m).length = l.length := by
  unfold put; simp; omega
theorem put_at {α : Type} (l m : List α) (o i : Nat) (h : o + m.length ≤ l.length) : (put l o m)[i]? = if o ≤ i ∧ i < o + m.length then m[i - o]? else l[i]? := by
  unfold put
  have h1 : min o l.length = o := by omega
  rw [List.getElem?_append, List.length_append, List.length_take, h1]
  by_cases a : i < o + m.length
  · rw [if_pos a, List.getElem?_append, List.length_take, h1]
    by_cases b : i < o
    · rw [if_pos b, if_neg (by omega), List.getElem?_take, if_pos b]
    · rw [if_neg b, if_pos (by omega)]
  · rw [if_neg a, if_neg (by omega), List.getElem?_drop]
    congr 1; omega
theorem put_map {α β : Type} (f : α → β) (l m : List α) (o : Nat) : (put l o m).map f = put (l.map f) o (m.map f) := by
  unfold put; simp [List.map_take, List.map_drop]
theorem put_app {α : Type} (l m ex : List α) (o : Nat) (h : o + m.length ≤ l.length) : put (l ++ ex) o m = put l o m ++ ex := by
  unfold put
  rw [List.take_append_of_le_length (by omega), List.drop_append_of_le_length (by omega)]
  simp [List.append_assoc]
theorem put_oct {l m : List Int} {o : Nat} (hl : Oct l) (hm : Oct m) : Oct (put l o m) := by
  unfold put
  exact (Oct.app (hl.take _) hm).app (hl.drop _)
theorem put_getD (l m : List Int) (o i : Nat) (h : o + m.length ≤ l.length) : (put l o m).getD i 0 = if o ≤ i ∧ i < o + m.length then m.getD (i - o) 0 else l.getD i 0 := by
  rw [List.getD_eq_getElem?_getD, put_at l m o i h]
  split <;> rw [List.getD_eq_getElem?_getD]

/-- Only blocks of a list are touched, and new ones are laid. -/
structure Kp (S : List Nat) (w w' : World) : Prop where
  os : w'.os = w.os
  tape : w'.tape = w.tape
  output : w'.output = w.output
  size : w.heap.size ≤ w'.heap.size
  block : ∀ k, k < w.heap.size → k ∉ S → w'.heap[k]? = w.heap[k]?
theorem Kp.refl (S : List Nat) (w : World) : Kp S w w := ⟨rfl, rfl, rfl, Nat.le_refl _, fun _ _ _ => rfl⟩
theorem Kp.trans {S : List Nat} {a b c : World} (h : Kp S a b) (k : Kp S b c) : Kp S a c :=
  ⟨k.os.trans h.os, k.tape.trans h.tape, k.output.trans h.output, Nat.le_trans h.size k.size, fun i hi hs => (k.block i (Nat.lt_of_lt_of_le hi h.size) hs).trans (h.block i hi hs)⟩
theorem Kp.more {S S' : List Nat} {a b : World} (h : Kp S a b) (hs : ∀ k ∈ S, k ∈ S') : Kp S' a b := ⟨h.os, h.tape, h.output, h.size, fun i hi hn => h.block i hi (fun hm => hn (hs i hm))⟩
theorem Kp.of {S : List Nat} {a b : World} (h : Below a.heap.size a b) : Kp S a b := ⟨h.os, h.tape, h.output, h.size, fun i hi _ => h.block i hi⟩
theorem Kp.al {S : List Nat} {a b : World} (h : Kp S a b) (o : Obj) : Kp S a (b.alloc o) := h.trans (Kp.of (Below.al (Below.refl _ _) o))
theorem Kp.drew {S : List Nat} {a b : World} (h : Kp S a b) : Kp S a b.drew := ⟨h.os, h.tape, h.output, h.size, h.block⟩
theorem Kp.set {S : List Nat} {a b : World} (h : Kp S a b) (p : Addr) (v : Value) (hp : p.block ∈ S ∨ a.heap.size ≤ p.block) : Kp S a (b.setCell p v) := by
  have hs : (b.setCell p v).heap.size = b.heap.size := by simp [World.setCell]
  refine ⟨h.os, h.tape, h.output, by rw [hs]; exact h.size, fun k hk hn => ?_⟩
  rw [Below.heap_setCell _ _ _ _ (fun e => by subst e; rcases hp with hp | hp; exact hn hp; omega)]
  exact h.block k hk hn
theorem Kp.row {S : List Nat} {a b : World} (h : Kp S a b) (g : Nat) (c : Array Value) (hp : g ∈ S ∨ a.heap.size ≤ g) : Kp S a (b.setRow g c) := by
  refine ⟨h.os, h.tape, h.output, by rw [size_setRow]; exact h.size, fun k hk hn => ?_⟩
  rw [setRow_other _ _ _ _ (fun e => by subst e; rcases hp with hp | hp; exact hn hp; omega)]
  exact h.block k hk hn
theorem Kp.below {S : List Nat} {N : Nat} {a b c : World} (h : Below N a b) (k : Kp S b c) (hN : N ≤ b.heap.size) (hs : ∀ i ∈ S, N ≤ i) : Below N a c :=
  ⟨k.os.trans h.os, k.tape.trans h.tape, k.output.trans h.output, Nat.le_trans h.size k.size, fun i hi => (k.block i (Nat.lt_of_lt_of_le hi hN) (fun hm => absurd (hs i hm) (by omega))).trans (h.block i hi)⟩
/-- Blocks that were new ahead need not be told. -/
theorem Kp.fresh {S S' : List Nat} {a b c : World} (h : Kp S a b) (k : Kp S' b c) (hs : ∀ i ∈ S', i ∈ S ∨ a.heap.size ≤ i) : Kp S a c :=
  ⟨k.os.trans h.os, k.tape.trans h.tape, k.output.trans h.output, Nat.le_trans h.size k.size, fun i hi hn => (k.block i (Nat.lt_of_lt_of_le hi h.size) (fun hm => (hs i hm).elim hn (fun h => by omega))).trans (h.block i hi hn)⟩

theorem Kp.bel {w w' : World} (h : Kp [] w w') : Below w.heap.size w w' := ⟨h.os, h.tape, h.output, h.size, fun k hk => h.block k hk (by simp)⟩
theorem lt_of_heap {w : World} {k : Nat} {o : Obj} (h : w.heap[k]? = some o) : k < w.heap.size := (Array.getElem?_eq_some_iff.1 h).1

/-- A part of a row out of memory. -/
theorem load_part (e : TypeId) (k : Nat) (he : (Try.prog.info? e).map (·.size) = some k) (hagg : ∀ w, (isAgg e).run Try.prog w = .ok true w) (w : World) (B o : Nat) (cs : List Value) (t : TypeId) (hb : w.heap[B]? = some (.cells cs.toArray t (0, 0))) (hk : o + k ≤ cs.length) :
    (loadVar e ⟨B, o, none⟩).run Try.prog w = .ok (.agg ((cs.drop o).take k).toArray) w := by
  cases hq : Try.prog.info? e with
  | none => simp [hq] at he
  | some i =>
    have hi : i.size = k := by simpa [hq] using he
    refine Go.Lib.rl_loadVar_cells (P := Try.prog) e i hq hagg B o _ (by simp [hi]; omega) w (fun j v hv => ?_)
    rw [cell_of_row w B (o + j) _ _ _ hb]
    rw [List.getElem?_take] at hv
    split at hv
    · rw [List.getElem?_drop] at hv
      simpa using hv
    · cases hv
/-- A part of a row into memory. -/
theorem store_part (e : TypeId) (k : Nat) (he : (Try.prog.info? e).map (·.size) = some k) (w : World) (B o : Nat) (cur : Array Value) (t : TypeId) (hb : w.heap[B]? = some (.cells cur t (0, 0))) (vs : List Value) (hv : vs.length = k) (hk : o + k ≤ cur.size) (h1 : ∀ v ∈ vs, v.oneCell' = true) :
    (storeVar e ⟨B, o, none⟩ (.agg vs.toArray)).run Try.prog w = .ok () (w.setRow B (cur.toList.take o ++ vs ++ cur.toList.drop (o + vs.length)).toArray) := by
  cases hq : Try.prog.info? e with
  | none => simp [hq] at he
  | some i =>
    have hi : i.size = k := by simpa [hq] using he
    have := run_storeCells_at Try.prog B o t vs 0 cur w hb (by simpa [hv] using hk) h1
    simpa [storeVar, Value.cells, sizeOf, typeInfo, hq, hi, hv, Result.andThen] using this

theorem wp_store_by {o : Oper} {a : Act} {w w' : World} {K : Act → World → Prop} {Q : Exit → Act → World → Prop} (ty : TypeId) (x y : Operand) (ho : o.op = .store ty x y)
    (ad : Addr) (v : Value) (hx : a.eval x = .pointer (some ad)) (hy : a.eval y = v) (hr : (storeVar ty ad v).run Try.prog w = .ok () w')
    (h : K (a.put o.dst undef) w') : o.wp Try.prog a w K Q := by
  unfold Oper.wp execOp
  simp only [ho, hx, hy, Instr.storeAt, Instr.sureAddr, Sem.run_bind, Sem.run_pure, Result.andThen_ok, hr]
  exact h
theorem wpList_store_by {ops : Array Oper} {rest : List Oper} {o : Oper} {a : Act} {w w' : World} {Q : Exit → Act → World → Prop} (hgd : o.guard = none) (ty : TypeId) (x y : Operand) (ho : o.op = .store ty x y)
    (ad : Addr) (v : Value) (hx : a.eval x = .pointer (some ad)) (hy : a.eval y = v) (hr : (storeVar ty ad v).run Try.prog w = .ok () w')
    (h : wpList Try.prog ops Q rest (a.put o.dst undef) w') : wpList Try.prog ops Q (o :: rest) a w :=
  wpList_plain hgd fun _ hK => wp_store_by ty x y ho ad v hx hy hr (hK _ _ h)
theorem wp_load_by {o : Oper} {a : Act} {w : World} {K : Act → World → Prop} {Q : Exit → Act → World → Prop} (ty : TypeId) (x : Operand) (ho : o.op = .load ty x)
    (ad : Addr) (v : Value) (hx : a.eval x = .pointer (some ad)) (hr : (loadVar ty ad).run Try.prog w = .ok v w)
    (h : K (a.put o.dst v) w) : o.wp Try.prog a w K Q := by
  unfold Oper.wp execOp
  simp only [ho, hx, Instr.loadAt, Instr.sureAddr, Sem.run_bind, Sem.run_pure, Result.andThen_ok, hr]
  exact h
theorem wpList_load_by {ops : Array Oper} {rest : List Oper} {o : Oper} {a : Act} {w : World} {Q : Exit → Act → World → Prop} (hgd : o.guard = none) (ty : TypeId) (x : Operand) (ho : o.op = .load ty x)
    (ad : Addr) (v : Value) (hx : a.eval x = .pointer (some ad)) (hr : (loadVar ty ad).run Try.prog w = .ok v w)
    (h : wpList Try.prog ops Q rest (a.put o.dst v) w) : wpList Try.prog ops Q (o :: rest) a w :=
  wpList_plain hgd fun _ hK => wp_load_by ty x ho ad v hx hr (hK _ _ h)
theorem Kp.cell {S : List Nat} {w w' : World} (h : Kp S w w') {b o : Nat} {v : Value} (hc : w.cell? ⟨b, o, none⟩ = some v) (hb : b ∉ S) : w'.cell? ⟨b, o, none⟩ = some v := by
  rw [World.cell?_of_block (w := w) (h.block b (block_lt_of_cell hc) hb)]; exact hc
#print axioms wpList_load_by
#print axioms wpList_store_by
#print axioms store_part
#print axioms load_part
end Go.Proofs.Ytndlpjfofjikeaa
