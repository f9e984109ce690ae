/-
  A range over a map of places.
-/
import Derived.Test.YtajllkkbgpijiaaGreatDoorDa
import Derived.Maps.RangeWalk
namespace Go.Proofs.YtajllkkbgpijiaaGreatDoor
open Go.RowKit

/-- A place. -/
structure Pq where
  i : Int
  s : Int
/-- Its cells. -/
abbrev Pq.A (x : Pq) : Array Value := #[.int .u16 x.i, .int .u8 x.s]
/-- The place of an entry of a map. -/
def kq (e : MapEntry) : Pq := match e.key with
  | .agg #[.int _ i, .int _ s] => ⟨i, s⟩
  | _ => ⟨0, 0⟩
theorem kq_of {es : List MapEntry} {lst : Mp} (h : es.map (fun e => (e.key, e.val)) = lst.map fun x => (plV x.1 x.2.1, x.2.2)) : es.map kq = lst.map (fun x => ⟨x.1, x.2.1⟩) ∧ ∀ e ∈ es, e.key = .agg (kq e).A := by
  induction es generalizing lst with
  | nil =>
    cases lst with
    | nil => simp
    | cons x l => simp at h
  | cons e es ih =>
    cases lst with
    | nil => simp at h
    | cons x l =>
      simp only [List.map_cons, List.cons.injEq, Prod.mk.injEq] at h
      obtain ⟨⟨h1, _⟩, h3⟩ := h
      obtain ⟨a, b⟩ := ih h3
      have hk : kq e = ⟨x.1, x.2.1⟩ := by unfold kq; rw [h1]; rfl
      refine ⟨by simp only [List.map_cons, a, hk], fun q hq => ?_⟩
      rcases List.mem_cons.1 hq with rfl | hq
      · rw [hk, h1]
      · exact b q hq
/-- What is left of a map's entries when one more has come. -/
theorem left_push {es : Array MapEntry} {seen : Array Nat} {e : MapEntry} (hn : (es.toList.map (·.born)).Nodup) (he : e ∈ (leftOf es seen).toList) : (leftOf es seen).toList.Perm (e :: (leftOf es (seen.push e.born)).toList) := by
  unfold leftOf at *
  rw [Array.toList_filter] at *
  have e2 : (es.filter fun x => !(seen.push e.born).contains x.born).toList = (es.toList.filter fun x => !seen.contains x.born).filter fun x => !(x.born == e.born) := by
    rw [Array.toList_filter, List.filter_filter]
    congr 1
    funext x
    have e3 : (seen.push e.born).contains x.born = (seen.contains x.born || x.born == e.born) := by
      rw [Bool.eq_iff_iff]
      simp [Array.mem_push]
    rw [e3]
    cases seen.contains x.born <;> cases (x.born == e.born) <;> rfl
  rw [e2]
  have hs : ((es.toList.filter fun x => !seen.contains x.born).map (·.born)).Nodup := (List.filter_sublist.map _).nodup hn
  generalize es.toList.filter (fun x => !seen.contains x.born) = l at he hs
  clear e2 hn
  induction l with
  | nil => cases he
  | cons a l ih =>
    simp only [List.map_cons, List.nodup_cons] at hs
    rcases List.mem_cons.1 he with rfl | he
    · have : l.filter (fun x => !(x.born == e.born)) = l := List.filter_eq_self.2 fun x hx => by
        have : x.born ≠ e.born := fun q => hs.1 (List.mem_map.2 ⟨x, hx, q⟩)
        simpa using this
      simp [this]
    · have hne : a.born ≠ e.born := fun q => hs.1 (List.mem_map.2 ⟨e, he, q.symm⟩)
      rw [List.filter_cons_of_pos (by simpa using hne)]
      exact ((ih he hs.2).cons a).trans (List.Perm.swap _ _ _)
/-- A loop over a map begins. -/
theorem wpList_range_m {ops : Array Oper} {rest : List Oper} {o : Oper} {a : Act} {w : World} {Q : Exit → Act → World → Prop} (hg : o.guard = none) (x : Operand) (hop : o.op = Op.range 89 x) (m : Nat) (es : Array MapEntry) (clock : Nat) (hx : a.eval x = .map (some m)) (hb : w.heap[m]? = some (.map es clock))
    (h : wpList Tryz.prog ops Q rest (a.put o.dst (.pointer (some ⟨w.heap.size, 0, none⟩))) (w.alloc (.mapIter (some m) clock #[] clock))) : wpList Tryz.prog ops Q (o :: rest) a w := by
  refine wpList_plain hg fun K' hK' => ?_
  unfold Oper.wp
  simp [execOp, hop, hx, run_range_map w 89 _ _ m es clock Tryz.underlying89 hb, Result.andThen]
  exact hK' _ _ h
/-- Its step. -/
theorem wpList_next_m {ops : Array Oper} {rest : List Oper} {o : Oper} {a : Act} {w : World} {Q : Exit → Act → World → Prop} (hg : o.guard = none) (it : Operand) (hop : o.op = Op.next it false) (m r clock : Nat) (seen : Array Nat) (es : Array MapEntry)
    (hit : a.eval it = .pointer (some ⟨r, 0, none⟩)) (hr : w.heap[r]? = some (.mapIter (some m) clock seen clock)) (hb : w.heap[m]? = some (.map es clock)) (hs : Stm es clock) (hne : r ≠ m)
    (hDone : (leftOf es seen).toList = [] → wpList Tryz.prog ops Q rest (a.put o.dst (.tuple #[.bool false])) w)
    (hMore : ∀ (e : MapEntry) (w' : World), e ∈ (leftOf es seen).toList → e ∈ es.toList → w'.heap.size = w.heap.size → Kp [r] w w' → w'.heap[r]? = some (.mapIter (some m) clock (seen.push e.born) clock) → (Instr.entry (.pointer (some ⟨r, 0, none⟩))).run Tryz.prog w' = .ok (.tuple #[e.key, e.val]) w' → wpList Tryz.prog ops Q rest (a.put o.dst (.tuple #[.bool true, e.key, e.val])) w') :
    wpList Tryz.prog ops Q (o :: rest) a w := by
  have hold : ∀ x ∈ es.toList, x.born < clock := fun x hx => hs.1 _ (List.mem_map.2 ⟨x, hx, rfl⟩)
  have hrl := lt_of_heap hr
  refine wpList_plain hg fun K' hK' => ?_
  unfold Oper.wp
  rcases run_next_at (P := Tryz.prog) w o.type r m clock clock seen es clock hr hb hold (Nat.le_refl _) with ⟨h0, hrun⟩ | ⟨e, he, w1, hw1, hrun⟩
  · simp [execOp, hop, hit, hrun, Result.andThen]
    exact hK' _ _ (hDone (by simpa using h0))
  · have hw : w1.heap = w.heap ∧ w1.os = w.os ∧ w1.tape = w.tape ∧ w1.output = w.output := by rcases hw1 with rfl | rfl <;> exact ⟨rfl, rfl, rfl, rfl⟩
    have hm : e ∈ es.toList := by
      unfold leftOf at he
      rw [Array.toList_filter] at he
      exact (List.mem_filter.1 he).1
    have h1 : (ChangeMaps.setBlock w1 r (.mapIter (some m) clock (seen.push e.born) clock)).heap[r]? = some (.mapIter (some m) clock (seen.push e.born) clock) := by
      simp [ChangeMaps.setBlock, hw.1, hrl]
    have h2 : (ChangeMaps.setBlock w1 r (.mapIter (some m) clock (seen.push e.born) clock)).heap[m]? = some (.map es clock) := by
      simp only [ChangeMaps.setBlock, hw.1]
      rw [Array.getElem?_setIfInBounds_ne hne]
      exact hb
    simp [execOp, hop, hit, hrun, Result.andThen]
    refine hK' _ _ (hMore e _ he hm (by simp [ChangeMaps.setBlock, hw.1]) ⟨hw.2.1, hw.2.2.1, hw.2.2.2, by simp [ChangeMaps.setBlock, hw.1], fun k _ hk => ?_⟩ h1 (run_entry_at _ r m clock seen es clock e h1 h2 hm hs.2))
    simp at hk
    simp only [ChangeMaps.setBlock, hw.1]
    rw [Array.getElem?_setIfInBounds_ne (Ne.symm hk)]
#print axioms wpList_range_m
#print axioms wpList_next_m
end Go.Proofs.YtajllkkbgpijiaaGreatDoor
