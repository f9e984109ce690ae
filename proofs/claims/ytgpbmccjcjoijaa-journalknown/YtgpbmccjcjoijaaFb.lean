/-
  Rows within rows; blocks that stay; flashes in memory; whole sectors and words out of memory and into it.
-/
import Derived.Test.YtgpbmccjcjoijaaBas
import Derived.Deep.WholeRow
import Derived.Deep.AppendSrc
import Derived.Lib.ReflectliteSwap
namespace Go.Proofs.Ytgpbmccjcjoijaa
open Go.RowKit

/-- A row within a row, written over. -/
def put {α : Type} (l : List α) (o : Nat) (m : List α) : List α := l.take o ++ m ++ l.drop (o + m.length)
theorem put_len {α : Type} (l m : List α) (o : Nat) (h : o + m.length ≤ l.length) : (put l o m).length = l.length := by
  unfold put; simp; omega
theorem put_at {α : Type} (l m : List α) (o i : Nat) (h : o + m.length ≤ l.length) : (put l o m)[i]? = if o ≤ i ∧ i < o + m.length then m[i - o]? else l[i]? := by
  unfold put
  have h1 : min o l.length = o := by omega
  rw [List.getElem?_append, List.length_append, List.length_take, h1]
  by_cases a : i < o + m.length
  · rw [if_pos a, List.getElem?_append, List.length_take, h1]
    by_cases b : i < o
    · rw [if_pos b, if_neg (by omega), List.getElem?_take, if_pos b]
    · rw [if_neg b, if_pos (by omega)]
  · rw [if_neg a, if_neg (by omega), List.getElem?_drop]
    congr 1; omega
theorem put_map {α β : Type} (f : α → β) (l m : List α) (o : Nat) : (put l o m).map f = put (l.map f) o (m.map f) := by
  unfold put; simp [List.map_take, List.map_drop]
theorem put_app {α : Type} (l m ex : List α) (o : Nat) (h : o + m.length ≤ l.length) : put (l ++ ex) o m = put l o m ++ ex := by
  unfold put
  rw [List.take_append_of_le_length (by omega), List.drop_append_of_le_length (by omega)]
  simp [List.append_assoc]
theorem put_oct {l m : List Int} {o : Nat} (hl : Oct l) (hm : Oct m) : Oct (put l o m) := by
  unfold put
  exact (Oct.app (hl.take _) hm).app (hl.drop _)
theorem put_getD (l m : List Int) (o i : Nat) (h : o + m.length ≤ l.length) : (put l o m).getD i 0 = if o ≤ i ∧ i < o + m.length then m.getD (i - o) 0 else l.getD i 0 := by
  rw [List.getD_eq_getElem?_getD, put_at l m o i h]
  split <;> rw [List.getD_eq_getElem?_getD]

/-- Only blocks of a list are touched, and new ones are laid. -/
structure Kp (S : List Nat) (w w' : World) : Prop where
  os : w'.os = w.os
  tape : w'.tape = w.tape
  output : w'.output = w.output
  size : w.heap.size ≤ w'.heap.size
  block : ∀ k, k < w.heap.size → k ∉ S → w'.heap[k]? = w.heap[k]?
theorem Kp.refl (S : List Nat) (w : World) : Kp S w w := ⟨rfl, rfl, rfl, Nat.le_refl _, fun _ _ _ => rfl⟩
theorem Kp.trans {S : List Nat} {a b c : World} (h : Kp S a b) (k : Kp S b c) : Kp S a c :=
  ⟨k.os.trans h.os, k.tape.trans h.tape, k.output.trans h.output, Nat.le_trans h.size k.size, fun i hi hs => (k.block i (Nat.lt_of_lt_of_le hi h.size) hs).trans (h.block i hi hs)⟩
theorem Kp.more {S S' : List Nat} {a b : World} (h : Kp S a b) (hs : ∀ k ∈ S, k ∈ S') : Kp S' a b := ⟨h.os, h.tape, h.output, h.size, fun i hi hn => h.block i hi (fun hm => hn (hs i hm))⟩
theorem Kp.of {S : List Nat} {a b : World} (h : Below a.heap.size a b) : Kp S a b := ⟨h.os, h.tape, h.output, h.size, fun i hi _ => h.block i hi⟩
theorem Kp.al {S : List Nat} {a b : World} (h : Kp S a b) (o : Obj) : Kp S a (b.alloc o) := h.trans (Kp.of (Below.al (Below.refl _ _) o))
theorem Kp.drew {S : List Nat} {a b : World} (h : Kp S a b) : Kp S a b.drew := ⟨h.os, h.tape, h.output, h.size, h.block⟩
theorem Kp.set {S : List Nat} {a b : World} (h : Kp S a b) (p : Addr) (v : Value) (hp : p.block ∈ S ∨ a.heap.size ≤ p.block) : Kp S a (b.setCell p v) := by
  have hs : (b.setCell p v).heap.size = b.heap.size := by simp [World.setCell]
  refine ⟨h.os, h.tape, h.output, by rw [hs]; exact h.size, fun k hk hn => ?_⟩
  rw [Below.heap_setCell _ _ _ _ (fun e => by subst e; rcases hp with hp | hp; exact hn hp; omega)]
  exact h.block k hk hn
theorem Kp.row {S : List Nat} {a b : World} (h : Kp S a b) (g : Nat) (c : Array Value) (hp : g ∈ S ∨ a.heap.size ≤ g) : Kp S a (b.setRow g c) := by
  refine ⟨h.os, h.tape, h.output, by rw [size_setRow]; exact h.size, fun k hk hn => ?_⟩
  rw [setRow_other _ _ _ _ (fun e => by subst e; rcases hp with hp | hp; exact hn hp; omega)]
  exact h.block k hk hn
theorem Kp.below {S : List Nat} {N : Nat} {a b c : World} (h : Below N a b) (k : Kp S b c) (hN : N ≤ b.heap.size) (hs : ∀ i ∈ S, N ≤ i) : Below N a c :=
  ⟨k.os.trans h.os, k.tape.trans h.tape, k.output.trans h.output, Nat.le_trans h.size k.size, fun i hi => (k.block i (Nat.lt_of_lt_of_le hi hN) (fun hm => absurd (hs i hm) (by omega))).trans (h.block i hi)⟩
/-- Blocks that were new ahead need not be told. -/
theorem Kp.fresh {S S' : List Nat} {a b c : World} (h : Kp S a b) (k : Kp S' b c) (hs : ∀ i ∈ S', i ∈ S ∨ a.heap.size ≤ i) : Kp S a c :=
  ⟨k.os.trans h.os, k.tape.trans h.tape, k.output.trans h.output, Nat.le_trans h.size k.size, fun i hi hn => (k.block i (Nat.lt_of_lt_of_le hi h.size) (fun hm => (hs i hm).elim hn (fun h => by omega))).trans (h.block i hi hn)⟩

theorem Kp.bel {w w' : World} (h : Kp [] w w') : Below w.heap.size w w' := ⟨h.os, h.tape, h.output, h.size, fun k hk => h.block k hk (by simp)⟩
theorem lt_of_heap {w : World} {k : Nat} {o : Obj} (h : w.heap[k]? = some o) : k < w.heap.size := (Array.getElem?_eq_some_iff.1 h).1

/-- A flash: its block, its sectors' block, how many, their bytes, steps, armed, left, off. -/
structure IsF (w : World) (p B n cap : Nat) (cs : List Int) (st : Int) (ar : Bool) (lf : Int) (of : Bool) : Prop where
  ne : p ≠ B
  n1 : 1 ≤ n
  n2 : n ≤ 64
  len : cs.length = 1024 * n
  oct : Oct cs
  head : w.heap[p]? = some (.cells #[.slice (some ⟨B, 0, none⟩) n cap, .int .i64 st, .bool ar, .int .i64 lf, .bool of] 89 (0, 0))
  row : ∃ t ex, w.heap[B]? = some (.cells (cs.map (Value.int .u8) ++ ex).toArray t (0, 0))

theorem IsF.keep {w w' : World} {p B n cap : Nat} {cs : List Int} {st : Int} {ar : Bool} {lf : Int} {of : Bool} (h : IsF w p B n cap cs st ar lf of) (hp : w'.heap[p]? = w.heap[p]?) (hB : w'.heap[B]? = w.heap[B]?) : IsF w' p B n cap cs st ar lf of :=
  ⟨h.ne, h.n1, h.n2, h.len, h.oct, by rw [hp]; exact h.head, by rw [hB]; exact h.row⟩
theorem IsF.lt {w : World} {p B n cap : Nat} {cs : List Int} {st : Int} {ar : Bool} {lf : Int} {of : Bool} (h : IsF w p B n cap cs st ar lf of) : p < w.heap.size ∧ B < w.heap.size := by
  obtain ⟨t, ex, hr⟩ := h.row
  exact ⟨lt_of_heap h.head, lt_of_heap hr⟩
theorem IsF.kp {w w' : World} {p B n cap : Nat} {cs : List Int} {st : Int} {ar : Bool} {lf : Int} {of : Bool} {S : List Nat} (h : IsF w p B n cap cs st ar lf of) (k : Kp S w w') (hp : p ∉ S) (hB : B ∉ S) : IsF w' p B n cap cs st ar lf of :=
  h.keep (k.block p h.lt.1 hp) (k.block B h.lt.2 hB)
theorem IsF.next {w w' : World} {p B n cap : Nat} {cs : List Int} {st : Int} {ar : Bool} {lf : Int} {of : Bool} (h : IsF w p B n cap cs st ar lf of) (k : Below w.heap.size w w') : IsF w' p B n cap cs st ar lf of :=
  h.kp (S := []) (Kp.of k) (by simp) (by simp)
theorem IsF.c0 {w : World} {p B n cap : Nat} {cs : List Int} {st : Int} {ar : Bool} {lf : Int} {of : Bool} (h : IsF w p B n cap cs st ar lf of) : w.cell? ⟨p, 0, none⟩ = some (.slice (some ⟨B, 0, none⟩) n cap) := by rw [cell_of_row w p 0 _ _ _ h.head]; rfl
theorem IsF.c1 {w : World} {p B n cap : Nat} {cs : List Int} {st : Int} {ar : Bool} {lf : Int} {of : Bool} (h : IsF w p B n cap cs st ar lf of) : w.cell? ⟨p, 1, none⟩ = some (.int .i64 st) := by rw [cell_of_row w p 1 _ _ _ h.head]; rfl
theorem IsF.c2 {w : World} {p B n cap : Nat} {cs : List Int} {st : Int} {ar : Bool} {lf : Int} {of : Bool} (h : IsF w p B n cap cs st ar lf of) : w.cell? ⟨p, 2, none⟩ = some (.bool ar) := by rw [cell_of_row w p 2 _ _ _ h.head]; rfl
theorem IsF.c3 {w : World} {p B n cap : Nat} {cs : List Int} {st : Int} {ar : Bool} {lf : Int} {of : Bool} (h : IsF w p B n cap cs st ar lf of) : w.cell? ⟨p, 3, none⟩ = some (.int .i64 lf) := by rw [cell_of_row w p 3 _ _ _ h.head]; rfl
theorem IsF.c4 {w : World} {p B n cap : Nat} {cs : List Int} {st : Int} {ar : Bool} {lf : Int} {of : Bool} (h : IsF w p B n cap cs st ar lf of) : w.cell? ⟨p, 4, none⟩ = some (.bool of) := by rw [cell_of_row w p 4 _ _ _ h.head]; rfl
theorem IsF.fz {w : World} {p B n cap : Nat} {cs : List Int} {st : Int} {ar : Bool} {lf : Int} {of : Bool} (h : IsF w p B n cap cs st ar lf of) (j : Nat) : w.frozen? ⟨p, j, none⟩ = false := frozen_of_row w p j _ _ h.head
theorem IsF.s1 {w : World} {p B n cap : Nat} {cs : List Int} {st : Int} {ar : Bool} {lf : Int} {of : Bool} (h : IsF w p B n cap cs st ar lf of) (x : Int) : IsF (w.setCell ⟨p, 1, none⟩ (.int .i64 x)) p B n cap cs x ar lf of :=
  ⟨h.ne, h.n1, h.n2, h.len, h.oct, by rw [heap_setCell_same w p 1 _ _ _ h.head]; rfl, by rw [heap_setCell_other _ _ _ _ h.ne.symm]; exact h.row⟩
theorem IsF.s2 {w : World} {p B n cap : Nat} {cs : List Int} {st : Int} {ar : Bool} {lf : Int} {of : Bool} (h : IsF w p B n cap cs st ar lf of) (x : Bool) : IsF (w.setCell ⟨p, 2, none⟩ (.bool x)) p B n cap cs st x lf of :=
  ⟨h.ne, h.n1, h.n2, h.len, h.oct, by rw [heap_setCell_same w p 2 _ _ _ h.head]; rfl, by rw [heap_setCell_other _ _ _ _ h.ne.symm]; exact h.row⟩
theorem IsF.s3 {w : World} {p B n cap : Nat} {cs : List Int} {st : Int} {ar : Bool} {lf : Int} {of : Bool} (h : IsF w p B n cap cs st ar lf of) (x : Int) : IsF (w.setCell ⟨p, 3, none⟩ (.int .i64 x)) p B n cap cs st ar x of :=
  ⟨h.ne, h.n1, h.n2, h.len, h.oct, by rw [heap_setCell_same w p 3 _ _ _ h.head]; rfl, by rw [heap_setCell_other _ _ _ _ h.ne.symm]; exact h.row⟩
theorem IsF.s4 {w : World} {p B n cap : Nat} {cs : List Int} {st : Int} {ar : Bool} {lf : Int} {of : Bool} (h : IsF w p B n cap cs st ar lf of) (x : Bool) : IsF (w.setCell ⟨p, 4, none⟩ (.bool x)) p B n cap cs st ar lf x :=
  ⟨h.ne, h.n1, h.n2, h.len, h.oct, by rw [heap_setCell_same w p 4 _ _ _ h.head]; rfl, by rw [heap_setCell_other _ _ _ _ h.ne.symm]; exact h.row⟩
/-- A row of its bytes, written over. -/
theorem IsF.over {w : World} {p B n cap : Nat} {cs : List Int} {st : Int} {ar : Bool} {lf : Int} {of : Bool} (h : IsF w p B n cap cs st ar lf of) (cur : Array Value) (t : TypeId) (hc : w.heap[B]? = some (.cells cur t (0, 0))) (o : Nat) (m : List Int) (hm : Oct m) (hl : o + m.length ≤ 1024 * n) :
    IsF (w.setRow B (cur.toList.take o ++ m.map (Value.int .u8) ++ cur.toList.drop (o + (m.map (Value.int .u8)).length)).toArray) p B n cap (put cs o m) st ar lf of := by
  obtain ⟨t', ex, hr⟩ := h.row
  rw [hc] at hr
  obtain ⟨rfl, rfl⟩ : cur = (cs.map (Value.int .u8) ++ ex).toArray ∧ t = t' := by simpa using hr
  refine ⟨h.ne, h.n1, h.n2, by rw [put_len _ _ _ (by rw [h.len]; exact hl)]; exact h.len, put_oct h.oct hm, by rw [setRow_other _ _ _ _ h.ne]; exact h.head, t, ex, ?_⟩
  rw [setRow_heap w B _ _ t _ hc]
  have e := put_app (cs.map (Value.int .u8)) (m.map (Value.int .u8)) ex o (by simp [h.len]; exact hl)
  rw [put_map, ← e]
  rfl

theorem info57 : (Try.prog.info? 92).map (fun i => (i.zero, i.size, i.bytes)) = some (some (.agg (Array.replicate 1024 (.int .u8 0))), 1024, 1024) := by kernel_rfl
theorem info32 : (Try.prog.info? 53).map (fun i => (i.zero, i.size, i.bytes)) = some (some (.agg #[.int .u8 0, .int .u8 0, .int .u8 0, .int .u8 0]), 4, 4) := by kernel_rfl

/-- A part of a row out of memory. -/
theorem load_part (e : TypeId) (k : Nat) (he : (Try.prog.info? e).map (·.size) = some k) (hagg : ∀ w, (isAgg e).run Try.prog w = .ok true w) (w : World) (B o : Nat) (cs : List Value) (t : TypeId) (hb : w.heap[B]? = some (.cells cs.toArray t (0, 0))) (hk : o + k ≤ cs.length) :
    (loadVar e ⟨B, o, none⟩).run Try.prog w = .ok (.agg ((cs.drop o).take k).toArray) w := by
  cases hq : Try.prog.info? e with
  | none => simp [hq] at he
  | some i =>
    have hi : i.size = k := by simpa [hq] using he
    refine Go.Lib.rl_loadVar_cells (P := Try.prog) e i hq hagg B o _ (by simp [hi]; omega) w (fun j v hv => ?_)
    rw [cell_of_row w B (o + j) _ _ _ hb]
    rw [List.getElem?_take] at hv
    split at hv
    · rw [List.getElem?_drop] at hv
      simpa using hv
    · cases hv
/-- A part of a row into memory. -/
theorem store_part (e : TypeId) (k : Nat) (he : (Try.prog.info? e).map (·.size) = some k) (w : World) (B o : Nat) (cur : Array Value) (t : TypeId) (hb : w.heap[B]? = some (.cells cur t (0, 0))) (vs : List Value) (hv : vs.length = k) (hk : o + k ≤ cur.size) (h1 : ∀ v ∈ vs, v.oneCell' = true) :
    (storeVar e ⟨B, o, none⟩ (.agg vs.toArray)).run Try.prog w = .ok () (w.setRow B (cur.toList.take o ++ vs ++ cur.toList.drop (o + vs.length)).toArray) := by
  cases hq : Try.prog.info? e with
  | none => simp [hq] at he
  | some i =>
    have hi : i.size = k := by simpa [hq] using he
    have := run_storeCells_at Try.prog B o t vs 0 cur w hb (by simpa [hv] using hk) h1
    simpa [storeVar, Value.cells, sizeOf, typeInfo, hq, hi, hv, Result.andThen] using this

theorem wp_store_by {o : Oper} {a : Act} {w w' : World} {K : Act → World → Prop} {Q : Exit → Act → World → Prop} (ty : TypeId) (x y : Operand) (ho : o.op = .store ty x y)
    (ad : Addr) (v : Value) (hx : a.eval x = .pointer (some ad)) (hy : a.eval y = v) (hr : (storeVar ty ad v).run Try.prog w = .ok () w')
    (h : K (a.put o.dst undef) w') : o.wp Try.prog a w K Q := by
  unfold Oper.wp execOp
  simp only [ho, hx, hy, Instr.storeAt, Instr.sureAddr, Sem.run_bind, Sem.run_pure, Result.andThen_ok, hr]
  exact h
theorem wpList_store_by {ops : Array Oper} {rest : List Oper} {o : Oper} {a : Act} {w w' : World} {Q : Exit → Act → World → Prop} (hgd : o.guard = none) (ty : TypeId) (x y : Operand) (ho : o.op = .store ty x y)
    (ad : Addr) (v : Value) (hx : a.eval x = .pointer (some ad)) (hy : a.eval y = v) (hr : (storeVar ty ad v).run Try.prog w = .ok () w')
    (h : wpList Try.prog ops Q rest (a.put o.dst undef) w') : wpList Try.prog ops Q (o :: rest) a w :=
  wpList_plain hgd fun _ hK => wp_store_by ty x y ho ad v hx hy hr (hK _ _ h)
theorem wp_load_by {o : Oper} {a : Act} {w : World} {K : Act → World → Prop} {Q : Exit → Act → World → Prop} (ty : TypeId) (x : Operand) (ho : o.op = .load ty x)
    (ad : Addr) (v : Value) (hx : a.eval x = .pointer (some ad)) (hr : (loadVar ty ad).run Try.prog w = .ok v w)
    (h : K (a.put o.dst v) w) : o.wp Try.prog a w K Q := by
  unfold Oper.wp execOp
  simp only [ho, hx, Instr.loadAt, Instr.sureAddr, Sem.run_bind, Sem.run_pure, Result.andThen_ok, hr]
  exact h
theorem wpList_load_by {ops : Array Oper} {rest : List Oper} {o : Oper} {a : Act} {w : World} {Q : Exit → Act → World → Prop} (hgd : o.guard = none) (ty : TypeId) (x : Operand) (ho : o.op = .load ty x)
    (ad : Addr) (v : Value) (hx : a.eval x = .pointer (some ad)) (hr : (loadVar ty ad).run Try.prog w = .ok v w)
    (h : wpList Try.prog ops Q rest (a.put o.dst v) w) : wpList Try.prog ops Q (o :: rest) a w :=
  wpList_plain hgd fun _ hK => wp_load_by ty x ho ad v hx hr (hK _ _ h)
#print axioms wpList_load_by
#print axioms wpList_store_by
#print axioms store_part
#print axioms load_part
end Go.Proofs.Ytgpbmccjcjoijaa
