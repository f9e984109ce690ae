/-
  Maps of errors that stand: looked up, put, struck, emptied, gone through.
-/
import Derived.Test.YtnbdnmfnmnboiaaZa
import Derived.MapKept
import Derived.Carry
import Derived.Maps.RangeWalk
namespace Go.Proofs.Ytnbdnmfnmnboiaa
open Go.RowKit

/-- What stands, each with its bit, in the order of its coming. -/
abbrev Mp := List (Int × Int)
def lookM : Mp → Int → Option Int
  | [], _ => none
  | x :: l, i => if (i == x.1) = true then some x.2 else lookM l i
/-- Without a code (the first of it). -/
def cutM : Mp → Int → Mp
  | [], _ => []
  | x :: l, i => if (i == x.1) = true then l else x :: cutM l i
/-- The stamps of a map's entries: each once, all below the clock. -/
def Stm (es : Array MapEntry) (c : Nat) : Prop := (∀ b ∈ es.toList.map (·.born), b < c) ∧ (es.toList.map (·.born)).Nodup
theorem stm_push {es : Array MapEntry} {c : Nat} (h : Stm es c) (k v : Value) : Stm (es.push ⟨k, v, c⟩) (c + 1) := by
  have e : (es.push ⟨k, v, c⟩).toList.map (·.born) = es.toList.map (·.born) ++ [c] := by simp
  unfold Stm
  rw [e]
  refine ⟨fun b hb => ?_, List.nodup_append.2 ⟨h.2, by simp, fun a ha b hb => ?_⟩⟩
  · rcases List.mem_append.1 hb with hb | hb
    · have := h.1 b hb
      omega
    · simp at hb
      omega
  · simp at hb
    have := h.1 a ha
    omega
/-- A map's block. -/
def IsM (w : World) (m : Nat) (l : Mp) : Prop := ∃ es clock, w.heap[m]? = some (.map es clock) ∧ es.toList.map (fun e => (e.key, e.val)) = l.map (fun x => (.int .u16 x.1, .int .u8 x.2)) ∧ Stm es clock
theorem IsM.lt {w : World} {m : Nat} {l : Mp} (h : IsM w m l) : m < w.heap.size := by
  obtain ⟨es, c, h, _⟩ := h
  exact lt_of_heap h
theorem IsM.same {w w' : World} {m : Nat} {l : Mp} (h : IsM w m l) (hb : w'.heap[m]? = w.heap[m]?) : IsM w' m l := by
  obtain ⟨es, c, h, e⟩ := h
  exact ⟨es, c, hb.trans h, e⟩
theorem IsM.next {w w' : World} {m : Nat} {l : Mp} (h : IsM w m l) (hb : Below w.heap.size w w') : IsM w' m l := h.same (hb.block m h.lt)
theorem IsM.kp {w w' : World} {m : Nat} {l : Mp} {S : List Nat} (h : IsM w m l) (hb : Kp S w w') (hm : m ∉ S) : IsM w' m l := h.same (hb.block m h.lt hm)
theorem isM_new (w : World) : IsM (w.alloc (.map #[] 0)) w.heap.size [] := ⟨#[], 0, heap_new _ _, rfl, ⟨by simp, by simp⟩⟩

theorem check_code (em : Bool) (i : Int) (w : World) : (Instr.checkKey em 10000 32 (.int .u16 i)).run Try.prog w = .ok () w := by kernel_rfl
/-- Where a code is found. -/
def idxM : Mp → Int → Nat → Option (Nat × Int)
  | [], _, _ => none
  | x :: l, i, k => if (i == x.1) = true then some (k, x.2) else idxM l i (k + 1)
theorem idxM_look (l : Mp) (i : Int) (k : Nat) : (idxM l i k).map (·.2) = lookM l i := by
  induction l generalizing k with
  | nil => rfl
  | cons x l ih =>
    simp only [idxM, lookM]
    split
    · rfl
    · exact ih _
theorem idxM_cut (l : Mp) (i : Int) (k j : Nat) (u : Int) (h : idxM l i k = some (j, u)) : ∃ n, j = k + n ∧ n < l.length ∧ l.eraseIdx n = cutM l i := by
  induction l generalizing k with
  | nil => cases h
  | cons x l ih =>
    simp only [idxM] at h
    split at h
    · rename_i hq
      cases h
      exact ⟨0, rfl, by simp, by simp [cutM, hq]⟩
    · rename_i hq
      obtain ⟨n, h1, h2, h3⟩ := ih _ h
      exact ⟨n + 1, by omega, by simp; omega, by simp only [List.eraseIdx_cons_succ, cutM, if_neg hq, h3]⟩
theorem now_code (i : Int) (es : List MapEntry) (l : Mp) (h : es.map (fun e => (e.key, e.val)) = l.map fun x => (Value.int .u16 x.1, Value.int .u8 x.2)) (k : Nat) : Instr.findNow (.int .u16) (.int .u16 i) es k = some ((idxM l i k).map fun y => (y.1, .int .u8 y.2)) := by
  induction es generalizing l k with
  | nil =>
    cases l with
    | nil => rfl
    | cons x l => simp at h
  | cons e es ih =>
    cases l with
    | nil => simp at h
    | cons x l =>
      simp only [List.map_cons, List.cons.injEq, Prod.mk.injEq] at h
      obtain ⟨⟨h1, h2⟩, h3⟩ := h
      simp only [Instr.findNow, h1, Instr.sameNow, idxM, if_true]
      cases hq : (i == x.1) with
      | true => simp [h2]
      | false => simpa using ih l h3 (k + 1)
theorem find_code (i : Int) (w : World) (es : List MapEntry) (l : Mp) (h : es.map (fun e => (e.key, e.val)) = l.map fun x => (Value.int .u16 x.1, Value.int .u8 x.2)) : (Instr.findKey 32 (.int .u16 i) es).run Try.prog w = .ok ((idxM l i 0).map fun y => (y.1, .int .u8 y.2)) w := by
  unfold Instr.findKey
  simp only [Sem.run_bind, run_underlying Try.underlying32, Result.andThen_ok, now_code i es l h 0]
  rfl
theorem zero_u8 (w : World) : (zeroValue 5).run Try.prog w = .ok (.int .u8 0) w := by kernel_rfl
set_option linter.unusedSimpArgs false in
theorem look_run (w : World) (m : Nat) (l : Mp) (i : Int) (h : IsM w m l) : (Instr.lookup 60 (.map (some m)) (.int .u16 i) true).run Try.prog w = .ok (.tuple #[.int .u8 ((lookM l i).getD 0), .bool (lookM l i).isSome]) w := by
  obtain ⟨es, c, hb, e, _⟩ := h
  have hf := find_code i w es.toList l e
  have hi := idxM_look l i 0
  rw [← hi]
  cases hq : idxM l i 0 with
  | none =>
    rw [hq] at hf
    simp [Instr.lookup, run_underlying Try.underlying60, MapKept.run_getObj_map hb, check_code, hf, zero_u8, Result.andThen]
  | some y =>
    rw [hq] at hf
    simp [Instr.lookup, run_underlying Try.underlying60, MapKept.run_getObj_map hb, check_code, hf, Result.andThen]
theorem kp_obj (w : World) (m : Nat) (o : Obj) : Kp [m] w { w with heap := w.heap.setIfInBounds m o } :=
  ⟨rfl, rfl, rfl, by simp, fun k _ hk => by simp at hk; simp [Ne.symm hk]⟩
theorem idxM_none (l : Mp) (i : Int) (k : Nat) (h : lookM l i = none) : idxM l i k = none := by
  have := idxM_look l i k
  rw [h] at this
  cases hq : idxM l i k with
  | none => rfl
  | some y => rw [hq] at this; cases this
/-- One more stands. -/
theorem put_run (w : World) (m : Nat) (l : Mp) (i v : Int) (h : IsM w m l) (hn : lookM l i = none) : ∃ w', (Instr.mapUpdate 60 (.map (some m)) (.int .u16 i) (.int .u8 v)).run Try.prog w = .ok () w' ∧ IsM w' m (l ++ [(i, v)]) ∧ Kp [m] w w' ∧ w'.heap.size = w.heap.size := by
  obtain ⟨es, c, hb, e, hs⟩ := h
  have hlt := lt_of_heap hb
  have hf := find_code i w es.toList l e
  rw [idxM_none l i 0 hn] at hf
  refine ⟨_, ?_, ⟨es.push ⟨.int .u16 i, .int .u8 v, c⟩, c + 1, ?_, ?_, stm_push hs _ _⟩, kp_obj w m (.map (es.push ⟨.int .u16 i, .int .u8 v, c⟩) (c + 1)), ?_⟩
  · simp [Instr.mapUpdate, run_underlying Try.underlying60, MapKept.run_getObj_map hb, check_code, hf, MapKept.run_setObj_map _ hb, Result.andThen]
  · simp [hlt]
  · rw [Array.toList_push, List.map_append, e]
    simp
  · simp
theorem er_map {α β : Type} (f : α → β) (l : List α) (n : Nat) : (l.eraseIdx n).map f = (l.map f).eraseIdx n := by
  induction l generalizing n with
  | nil => rfl
  | cons x l ih => cases n <;> simp [ih]
/-- One stands no more. -/
theorem del_run (w : World) (m : Nat) (l : Mp) (i : Int) (ty : TypeId) (h : IsM w m l) (hn : lookM l i ≠ none) : ∃ w', (Builtin.delete_ #[60, 32] ty #[.map (some m), .int .u16 i]).run Try.prog w = .ok (.tuple #[]) w' ∧ IsM w' m (cutM l i) ∧ Kp [m] w w' ∧ w'.heap.size = w.heap.size := by
  obtain ⟨es, c, hb, e, hs⟩ := h
  have hlt := lt_of_heap hb
  have hf := find_code i w es.toList l e
  have hi := idxM_look l i 0
  cases hq : idxM l i 0 with
  | none => rw [hq] at hi; exact absurd hi.symm hn
  | some y =>
    obtain ⟨j, u⟩ := y
    rw [hq] at hf
    obtain ⟨n, h1, h2, h3⟩ := idxM_cut l i 0 j u hq
    obtain rfl : j = n := by omega
    have hl : j < es.size := by have := congrArg List.length e; simp at this; omega
    refine ⟨_, ?_, ⟨es.eraseIdxIfInBounds j, c, ?_, ?_, ?_⟩, kp_obj w m (.map (es.eraseIdxIfInBounds j) c), ?_⟩
    · simp [Builtin.delete_, run_underlying Try.underlying60, MapKept.run_getObj_map hb, check_code, hf, MapKept.run_setObj_map _ hb, Result.andThen]
    · simp [hlt]
    · rw [Array.eraseIdxIfInBounds, dif_pos hl, Array.toList_eraseIdx, er_map, e, ← er_map, h3]
    · have e2 : (es.eraseIdxIfInBounds j).toList.map (·.born) = (es.toList.map (·.born)).eraseIdx j := by
        rw [Array.eraseIdxIfInBounds, dif_pos hl, Array.toList_eraseIdx, er_map]
      unfold Stm
      rw [e2]
      exact ⟨fun b hb => hs.1 b ((List.eraseIdx_sublist _ _).subset hb), hs.2.sublist (List.eraseIdx_sublist _ _)⟩
    · simp
/-- None stands. -/
theorem clr_run (w : World) (m : Nat) (l : Mp) (ty : TypeId) (h : IsM w m l) : ∃ w', (Builtin.clear_ #[60] ty #[.map (some m)]).run Try.prog w = .ok (.tuple #[]) w' ∧ IsM w' m [] ∧ Kp [m] w w' ∧ w'.heap.size = w.heap.size := by
  obtain ⟨es, c, hb, e, hs⟩ := h
  have hlt := lt_of_heap hb
  refine ⟨_, ?_, ⟨#[], c, ?_, rfl, ⟨by simp, by simp⟩⟩, kp_obj w m (.map #[] c), by simp⟩
  · simp [Builtin.clear_, run_underlying Try.underlying60, MapKept.run_getObj_map hb, MapKept.run_setObj_map _ hb, Result.andThen]
  · simp [hlt]
set_option linter.unusedSimpArgs false in
/-- How many stand. -/
theorem len_run (w : World) (m : Nat) (l : Mp) (ty : TypeId) (h : IsM w m l) : (Builtin.len_ #[60] ty #[.map (some m)]).run Try.prog w = .ok (.int .i64 (l.length : Int)) w := by
  obtain ⟨es, c, hb, e, hs⟩ := h
  have hl : es.size = l.length := by have := congrArg List.length e; simpa using this
  simp [Builtin.len_, Builtin.lenOf, run_underlying Try.underlying60, MapKept.run_getObj_map hb, hl, Result.andThen, goInt]
/-- What is left of a map's entries when one more has come. -/
theorem left_push {es : Array MapEntry} {seen : Array Nat} {e : MapEntry} (hn : (es.toList.map (·.born)).Nodup) (he : e ∈ (leftOf es seen).toList) : (leftOf es seen).toList.Perm (e :: (leftOf es (seen.push e.born)).toList) := by
  unfold leftOf at *
  rw [Array.toList_filter] at *
  have e2 : (es.filter fun x => !(seen.push e.born).contains x.born).toList = (es.toList.filter fun x => !seen.contains x.born).filter fun x => !(x.born == e.born) := by
    rw [Array.toList_filter, List.filter_filter]
    congr 1
    funext x
    have e3 : (seen.push e.born).contains x.born = (seen.contains x.born || x.born == e.born) := by
      rw [Bool.eq_iff_iff]
      simp [Array.mem_push]
    rw [e3]
    cases seen.contains x.born <;> cases (x.born == e.born) <;> rfl
  rw [e2]
  have hs : ((es.toList.filter fun x => !seen.contains x.born).map (·.born)).Nodup := (List.filter_sublist.map _).nodup hn
  generalize es.toList.filter (fun x => !seen.contains x.born) = l at he hs
  clear e2 hn
  induction l with
  | nil => cases he
  | cons a l ih =>
    simp only [List.map_cons, List.nodup_cons] at hs
    rcases List.mem_cons.1 he with rfl | he
    · have : l.filter (fun x => !(x.born == e.born)) = l := List.filter_eq_self.2 fun x hx => by
        have : x.born ≠ e.born := fun q => hs.1 (List.mem_map.2 ⟨x, hx, q⟩)
        simpa using this
      simp [this]
    · have hne : a.born ≠ e.born := fun q => hs.1 (List.mem_map.2 ⟨e, he, q.symm⟩)
      rw [List.filter_cons_of_pos (by simpa using hne)]
      exact ((ih he hs.2).cons a).trans (List.Perm.swap _ _ _)
/-- A loop over a map begins. -/
theorem wpList_range_m {ops : Array Oper} {rest : List Oper} {o : Oper} {a : Act} {w : World} {Q : Exit → Act → World → Prop} (hg : o.guard = none) (x : Operand) (hop : o.op = Op.range 60 x) (m : Nat) (es : Array MapEntry) (clock : Nat) (hx : a.eval x = .map (some m)) (hb : w.heap[m]? = some (.map es clock))
    (h : wpList Try.prog ops Q rest (a.put o.dst (.pointer (some ⟨w.heap.size, 0, none⟩))) (w.alloc (.mapIter (some m) clock #[] clock))) : wpList Try.prog ops Q (o :: rest) a w := by
  refine wpList_plain hg fun K' hK' => ?_
  unfold Oper.wp
  simp [execOp, hop, hx, run_range_map w 60 _ _ m es clock Try.underlying60 hb, Result.andThen]
  exact hK' _ _ h
/-- Its step. -/
theorem wpList_next_m {ops : Array Oper} {rest : List Oper} {o : Oper} {a : Act} {w : World} {Q : Exit → Act → World → Prop} (hg : o.guard = none) (it : Operand) (hop : o.op = Op.next it false) (m r clock : Nat) (seen : Array Nat) (es : Array MapEntry)
    (hit : a.eval it = .pointer (some ⟨r, 0, none⟩)) (hr : w.heap[r]? = some (.mapIter (some m) clock seen clock)) (hb : w.heap[m]? = some (.map es clock)) (hs : Stm es clock) (hne : r ≠ m)
    (hDone : (leftOf es seen).toList = [] → wpList Try.prog ops Q rest (a.put o.dst (.tuple #[.bool false])) w)
    (hMore : ∀ (e : MapEntry) (w' : World), e ∈ (leftOf es seen).toList → e ∈ es.toList → w'.heap.size = w.heap.size → Kp [r] w w' → w'.heap[r]? = some (.mapIter (some m) clock (seen.push e.born) clock) → (Instr.entry (.pointer (some ⟨r, 0, none⟩))).run Try.prog w' = .ok (.tuple #[e.key, e.val]) w' → wpList Try.prog ops Q rest (a.put o.dst (.tuple #[.bool true, e.key, e.val])) w') :
    wpList Try.prog ops Q (o :: rest) a w := by
  have hold : ∀ x ∈ es.toList, x.born < clock := fun x hx => hs.1 _ (List.mem_map.2 ⟨x, hx, rfl⟩)
  have hrl := lt_of_heap hr
  refine wpList_plain hg fun K' hK' => ?_
  unfold Oper.wp
  rcases run_next_at (P := Try.prog) w o.type r m clock clock seen es clock hr hb hold (Nat.le_refl _) with ⟨h0, hrun⟩ | ⟨e, he, w1, hw1, hrun⟩
  · simp [execOp, hop, hit, hrun, Result.andThen]
    exact hK' _ _ (hDone (by simpa using h0))
  · have hw : w1.heap = w.heap ∧ w1.os = w.os ∧ w1.tape = w.tape ∧ w1.output = w.output := by rcases hw1 with rfl | rfl <;> exact ⟨rfl, rfl, rfl, rfl⟩
    have hm : e ∈ es.toList := by
      unfold leftOf at he
      rw [Array.toList_filter] at he
      exact (List.mem_filter.1 he).1
    have h1 : (ChangeMaps.setBlock w1 r (.mapIter (some m) clock (seen.push e.born) clock)).heap[r]? = some (.mapIter (some m) clock (seen.push e.born) clock) := by
      simp [ChangeMaps.setBlock, hw.1, hrl]
    have h2 : (ChangeMaps.setBlock w1 r (.mapIter (some m) clock (seen.push e.born) clock)).heap[m]? = some (.map es clock) := by
      simp only [ChangeMaps.setBlock, hw.1]
      rw [Array.getElem?_setIfInBounds_ne hne]
      exact hb
    simp [execOp, hop, hit, hrun, Result.andThen]
    refine hK' _ _ (hMore e _ he hm (by simp [ChangeMaps.setBlock, hw.1]) ⟨hw.2.1, hw.2.2.1, hw.2.2.2, by simp [ChangeMaps.setBlock, hw.1], fun k _ hk => ?_⟩ h1 (run_entry_at _ r m clock seen es clock e h1 h2 hm hs.2))
    simp at hk
    simp only [ChangeMaps.setBlock, hw.1]
    rw [Array.getElem?_setIfInBounds_ne (Ne.symm hk)]
#print axioms look_run
#print axioms wpList_next_m
#print axioms del_run
#print axioms len_run
end Go.Proofs.Ytnbdnmfnmnboiaa
