/-
  Rows of places in memory; a range over a map.
-/
import Derived.Test.YtgfmcjneglnnpaaDoorDa
import Derived.Maps.RangeWalk
import Derived.Deep.RegionLaw
import Derived.WalkSmall
namespace Go.Proofs.YtgfmcjneglnnpaaDoor
open Go.RowKit

/-- A place. -/
structure Pq where
  i : Int
  s : Int
/-- Its cells. -/
abbrev Pq.A (x : Pq) : Array Value := #[.int .u16 x.i, .int .u8 x.s]
def Pq.L (x : Pq) : List Value := x.A.toList
/-- The cells of a row of them. -/
def flq (l : List Pq) : List Value := l.flatMap Pq.L
theorem Pq.L_len (x : Pq) : x.L.length = 2 := rfl
theorem flq_len (l : List Pq) : (flq l).length = l.length * 2 := by
  unfold flq
  induction l with
  | nil => rfl
  | cons x l ih => rw [List.flatMap_cons, List.length_append, ih, Pq.L_len, List.length_cons]; omega
theorem flq_app (l m : List Pq) : flq (l ++ m) = flq l ++ flq m := by unfold flq; rw [List.flatMap_append]
theorem flq_one (x : Pq) : flq [x] = x.L := by unfold flq; simp
theorem flq_at (l : List Pq) (i : Nat) (x : Pq) (h : l[i]? = some x) : ((flq l).drop (i * 2)).take 2 = x.L := by
  obtain ⟨hi, he⟩ := List.getElem?_eq_some_iff.1 h
  have e : l = l.take i ++ (x :: l.drop (i + 1)) := by rw [← he, List.getElem_cons_drop, List.take_append_drop]
  have e2 : flq l = flq (l.take i) ++ (x.L ++ flq (l.drop (i + 1))) := by
    conv => lhs; rw [e]
    rw [flq_app]
    rfl
  have hl : (flq (l.take i)).length = i * 2 := by rw [flq_len, List.length_take]; congr 1; omega
  rw [e2, List.drop_append_of_le_length (by omega), List.drop_of_length_le (by omega), List.nil_append, List.take_append_of_le_length (by rw [Pq.L_len]; omega), List.take_of_length_le (by rw [Pq.L_len]; omega)]
/-- What waits, in memory of its own. -/
abbrev IsQ (w : World) (base : Nat) (v : Value) (l : List Pq) : Prop := w.ownsRow base 24 2 v l.length (flq l)
theorem IsQ.form {w : World} {base : Nat} {v : Value} {l : List Pq} (h : IsQ w base v l) : (v = .slice none 0 0 ∧ l = []) ∨ ∃ g cap cur, v = .slice (some ⟨g, 0, none⟩) l.length cap ∧ base ≤ g ∧ w.heap[g]? = some (.cells cur 24 (0, 0)) ∧ l.length ≤ cap ∧ cap ≤ maxLen ∧ cur.size = cap * 2 ∧ cur.toList.take (l.length * 2) = flq l := by
  rcases h.2 with ⟨h1, h2⟩ | ⟨g, cap, cur, hv, hg, hh, hn, hm, hs, ht⟩
  · exact .inl ⟨h1, List.eq_nil_of_length_eq_zero h2⟩
  · exact .inr ⟨g, cap, cur, hv, hg, hh, hn, hm, hs, ht⟩
/-- One of them out of memory. -/
theorem IsQ.load {w : World} {base g cap : Nat} {l : List Pq} (h : IsQ w base (.slice (some ⟨g, 0, none⟩) l.length cap) l) (i : Nat) (x : Pq) (hx : l[i]? = some x) : (loadVar 24 ⟨g, i * 2, none⟩).run Tryd.prog w = .ok (.agg x.A) w := by
  have hi : i < l.length := (List.getElem?_eq_some_iff.1 hx).1
  rcases h.form with ⟨h1, _⟩ | ⟨g', cap', cur, hv, _, hh, hn, _, hs, ht⟩
  · cases h1
  · cases hv
    have := load_part 24 2 sizeP aggP w g (i * 2) cur.toList 24 hh (by simp [hs]; omega)
    rw [this]
    have e : (cur.toList.drop (i * 2)).take 2 = x.L := by
      rw [← flq_at l i x hx, ← ht, List.drop_take, List.take_take, Nat.min_eq_left (by omega)]
    rw [e]
    rfl
/-- One of them into memory. -/
theorem IsQ.store {w : World} {base g cap : Nat} {l : List Pq} (h : IsQ w base (.slice (some ⟨g, 0, none⟩) l.length cap) l) (i : Nat) (x : Pq) (hi : i < l.length) : ∃ w', (storeVar 24 ⟨g, i * 2, none⟩ (.agg x.A)).run Tryd.prog w = .ok () w' ∧ IsQ w' base (.slice (some ⟨g, 0, none⟩) l.length cap) (l.set i x) ∧ Kp [g] w w' := by
  rcases h.form with ⟨h1, _⟩ | ⟨g', cap', cur, hv, hg, hh, hn, hm, hs, ht⟩
  · cases h1
  · cases hv
    refine ⟨_, store_part 24 2 sizeP w g (i * 2) cur 24 hh x.L (Pq.L_len x) (by rw [hs]; omega) (by intro v hv; simp [Pq.L] at hv; rcases hv with rfl | rfl <;> rfl), ⟨by rw [flq_len], .inr ⟨g, cap, _, by rw [List.length_set], hg, setRow_heap w g cur _ _ _ hh, by rw [List.length_set]; exact hn, hm, ?_, ?_⟩⟩, (Kp.refl _ _).row _ _ (.inl (by simp))⟩
    · simp [Pq.L_len, hs]; omega
    · have e : l.set i x = l.take i ++ (x :: l.drop (i + 1)) := by rw [List.set_eq_take_append_cons_drop, if_pos hi]
      have hl : (flq (l.take i)).length = i * 2 := by rw [flq_len, List.length_take]; congr 1; omega
      have ef : flq (l.set i x) = flq (l.take i) ++ (x.L ++ flq (l.drop (i + 1))) := by rw [e, flq_app]; rfl
      have f1 : flq (l.take i) = cur.toList.take (i * 2) := by
        have : (flq l).take (i * 2) = flq (l.take i) := by
          conv => lhs; rw [← List.take_append_drop i l, flq_app]
          rw [List.take_append_of_le_length (by omega), List.take_of_length_le (by omega)]
        rw [← this, ← ht, List.take_take, Nat.min_eq_left (by omega)]
      have f2 : flq (l.drop (i + 1)) = (cur.toList.drop ((i + 1) * 2)).take ((l.length - (i + 1)) * 2) := by
        have hl2 : (flq (l.take (i + 1))).length = (i + 1) * 2 := by rw [flq_len, List.length_take]; congr 1; omega
        have : (flq l).drop ((i + 1) * 2) = flq (l.drop (i + 1)) := by
          conv => lhs; rw [← List.take_append_drop (i + 1) l, flq_app]
          rw [List.drop_append_of_le_length (by omega), List.drop_of_length_le (by omega), List.nil_append]
        rw [← this, ← ht, List.drop_take]
        congr 1; omega
      have hc1 : (cur.toList.take (i * 2)).length = i * 2 := by rw [List.length_take]; simp [hs]; omega
      have hA : (cur.toList.take (i * 2) ++ x.L).length = (i + 1) * 2 := by rw [List.length_append, hc1, Pq.L_len]; omega
      rw [List.length_set, List.toList_toArray, List.take_append, List.take_of_length_le (by rw [hA]; omega), hA, ef, f1, f2, List.append_assoc, Pq.L_len, show i * 2 + 2 = (i + 1) * 2 from by omega, show l.length * 2 - (i + 1) * 2 = (l.length - (i + 1)) * 2 from by omega]

theorem IsQ.isSome {w : World} {base : Nat} {v : Value} {l : List Pq} (h : IsQ w base v l) (hl : l ≠ []) : ∃ g cap, v = .slice (some ⟨g, 0, none⟩) l.length cap := by
  rcases h.form with ⟨_, h2⟩ | ⟨g, cap, _, hv, _⟩
  · exact absurd h2 hl
  · exact ⟨g, cap, hv⟩
theorem infoQ : (Tryd.prog.info? 24).map (fun i => (i.zero, i.size, i.bytes)) = some (some (.agg #[.int .u16 0, .int .u8 0]), 2, 4) := by kernel_rfl
theorem ext_grown {w w' : World} {row : Option Nat} {base : Nat} {v : Value} {l : List Pq} (h : IsQ w base v l) (hg : w.grownBy w' row) (hr : ∀ j, row = some j → j < base) : IsQ w' base v l :=
  h.kept hg (by
    cases e : v.ownBlock with
    | none => exact .inl rfl
    | some b => exact .inr fun q => by have := (h.lt b e).1; have := hr b q.symm; omega)
/-- One place put behind those of a row of its own. -/
theorem wpList_append_place {ops : Array Oper} {rest : List Oper} {o : Oper} {a : Act} {w : World} {Q : Exit → Act → World → Prop} (hgd : o.guard = none) (s x : Operand)
    (ho : o.op = .call { callee := .builtin .append, args := #[s, x], argTypes := #[83, 83] }) (base : Nat) (v : Value) (l : List Pq) (hs : a.eval s = v) (hown : IsQ w base v l)
    (ad : Addr) (y : Pq) (hx : a.eval x = .slice (some ad) 1 1) (hnews : ∀ j u, y.L[j]? = some u → w.cell? (ad.add j) = some u) (h63 : l.length ≤ 1000000) (hbase : base ≤ w.heap.size)
    (h : ∀ v' w', IsQ w' base v' (l ++ [y]) → w.grownBy w' v.ownBlock → wpList Tryd.prog ops Q rest (a.put o.dst v') w') : wpList Tryd.prog ops Q (o :: rest) a w := by
  obtain ⟨i0, hi, hz0, hz1, hz2⟩ := info_parts infoQ
  refine wpList_append_own (P := Tryd.prog) w hgd s x 83 ho base 24 i0 _ 2 4 Tryd.underlying83 hi hz0 hz1 hz2 rfl (by decide) v l.length _ hs hown ad 1 1 y.L hx (Pq.L_len y) hnews (fun u hu => by simp [Pq.L] at hu; rcases hu with rfl | rfl <;> rfl) (by unfold maxLen; omega) (by omega) hbase ?_
  intro v' w' h1 h2 _
  refine h v' w' ?_ h2
  show w'.ownsRow base 24 2 v' (l ++ [y]).length (flq (l ++ [y]))
  rw [flq_app, flq_one, List.length_append]
  exact h1

/-- The place of an entry of a map. -/
def kq (e : MapEntry) : Pq := match e.key with
  | .agg #[.int _ i, .int _ s] => ⟨i, s⟩
  | _ => ⟨0, 0⟩
theorem kq_of {es : List MapEntry} {lst : Mp} (h : es.map (fun e => (e.key, e.val)) = lst.map fun x => (plV x.1 x.2.1, x.2.2)) : es.map kq = lst.map (fun x => ⟨x.1, x.2.1⟩) ∧ ∀ e ∈ es, e.key = .agg (kq e).A := by
  induction es generalizing lst with
  | nil =>
    cases lst with
    | nil => simp
    | cons x l => simp at h
  | cons e es ih =>
    cases lst with
    | nil => simp at h
    | cons x l =>
      simp only [List.map_cons, List.cons.injEq, Prod.mk.injEq] at h
      obtain ⟨⟨h1, _⟩, h3⟩ := h
      obtain ⟨a, b⟩ := ih h3
      have hk : kq e = ⟨x.1, x.2.1⟩ := by unfold kq; rw [h1]; rfl
      refine ⟨by simp only [List.map_cons, a, hk], fun q hq => ?_⟩
      rcases List.mem_cons.1 hq with rfl | hq
      · rw [hk, h1]
      · exact b q hq
/-- What is left of a map's entries when one more has come. -/
theorem left_push {es : Array MapEntry} {seen : Array Nat} {e : MapEntry} (hn : (es.toList.map (·.born)).Nodup) (he : e ∈ (leftOf es seen).toList) : (leftOf es seen).toList.Perm (e :: (leftOf es (seen.push e.born)).toList) := by
  unfold leftOf at *
  rw [Array.toList_filter] at *
  have e2 : (es.filter fun x => !(seen.push e.born).contains x.born).toList = (es.toList.filter fun x => !seen.contains x.born).filter fun x => !(x.born == e.born) := by
    rw [Array.toList_filter, List.filter_filter]
    congr 1
    funext x
    have e3 : (seen.push e.born).contains x.born = (seen.contains x.born || x.born == e.born) := by
      rw [Bool.eq_iff_iff]
      simp [Array.mem_push]
    rw [e3]
    cases seen.contains x.born <;> cases (x.born == e.born) <;> rfl
  rw [e2]
  have hs : ((es.toList.filter fun x => !seen.contains x.born).map (·.born)).Nodup := (List.filter_sublist.map _).nodup hn
  generalize es.toList.filter (fun x => !seen.contains x.born) = l at he hs
  clear e2 hn
  induction l with
  | nil => cases he
  | cons a l ih =>
    simp only [List.map_cons, List.nodup_cons] at hs
    rcases List.mem_cons.1 he with rfl | he
    · have : l.filter (fun x => !(x.born == e.born)) = l := List.filter_eq_self.2 fun x hx => by
        have : x.born ≠ e.born := fun q => hs.1 (List.mem_map.2 ⟨x, hx, q⟩)
        simpa using this
      simp [this]
    · have hne : a.born ≠ e.born := fun q => hs.1 (List.mem_map.2 ⟨e, he, q.symm⟩)
      rw [List.filter_cons_of_pos (by simpa using hne)]
      exact ((ih he hs.2).cons a).trans (List.Perm.swap _ _ _)
/-- A loop over a map begins. -/
theorem wpList_range_m {ops : Array Oper} {rest : List Oper} {o : Oper} {a : Act} {w : World} {Q : Exit → Act → World → Prop} (hg : o.guard = none) (x : Operand) (hop : o.op = Op.range 78 x) (m : Nat) (es : Array MapEntry) (clock : Nat) (hx : a.eval x = .map (some m)) (hb : w.heap[m]? = some (.map es clock))
    (h : wpList Tryd.prog ops Q rest (a.put o.dst (.pointer (some ⟨w.heap.size, 0, none⟩))) (w.alloc (.mapIter (some m) clock #[] clock))) : wpList Tryd.prog ops Q (o :: rest) a w := by
  refine wpList_plain hg fun K' hK' => ?_
  unfold Oper.wp
  simp [execOp, hop, hx, run_range_map w 78 _ _ m es clock Tryd.underlying78 hb, Result.andThen]
  exact hK' _ _ h
/-- Its step. -/
theorem wpList_next_m {ops : Array Oper} {rest : List Oper} {o : Oper} {a : Act} {w : World} {Q : Exit → Act → World → Prop} (hg : o.guard = none) (it : Operand) (hop : o.op = Op.next it false) (m r clock : Nat) (seen : Array Nat) (es : Array MapEntry)
    (hit : a.eval it = .pointer (some ⟨r, 0, none⟩)) (hr : w.heap[r]? = some (.mapIter (some m) clock seen clock)) (hb : w.heap[m]? = some (.map es clock)) (hs : Stm es clock) (hne : r ≠ m)
    (hDone : (leftOf es seen).toList = [] → wpList Tryd.prog ops Q rest (a.put o.dst (.tuple #[.bool false])) w)
    (hMore : ∀ (e : MapEntry) (w' : World), e ∈ (leftOf es seen).toList → e ∈ es.toList → w'.heap.size = w.heap.size → Kp [r] w w' → w'.heap[r]? = some (.mapIter (some m) clock (seen.push e.born) clock) → (Instr.entry (.pointer (some ⟨r, 0, none⟩))).run Tryd.prog w' = .ok (.tuple #[e.key, e.val]) w' → wpList Tryd.prog ops Q rest (a.put o.dst (.tuple #[.bool true, e.key, e.val])) w') :
    wpList Tryd.prog ops Q (o :: rest) a w := by
  have hold : ∀ x ∈ es.toList, x.born < clock := fun x hx => hs.1 _ (List.mem_map.2 ⟨x, hx, rfl⟩)
  have hrl := lt_of_heap hr
  refine wpList_plain hg fun K' hK' => ?_
  unfold Oper.wp
  rcases run_next_at (P := Tryd.prog) w o.type r m clock clock seen es clock hr hb hold (Nat.le_refl _) with ⟨h0, hrun⟩ | ⟨e, he, w1, hw1, hrun⟩
  · simp [execOp, hop, hit, hrun, Result.andThen]
    exact hK' _ _ (hDone (by simpa using h0))
  · have hw : w1.heap = w.heap ∧ w1.os = w.os ∧ w1.tape = w.tape ∧ w1.output = w.output := by rcases hw1 with rfl | rfl <;> exact ⟨rfl, rfl, rfl, rfl⟩
    have hm : e ∈ es.toList := by
      unfold leftOf at he
      rw [Array.toList_filter] at he
      exact (List.mem_filter.1 he).1
    have h1 : (ChangeMaps.setBlock w1 r (.mapIter (some m) clock (seen.push e.born) clock)).heap[r]? = some (.mapIter (some m) clock (seen.push e.born) clock) := by
      simp [ChangeMaps.setBlock, hw.1, hrl]
    have h2 : (ChangeMaps.setBlock w1 r (.mapIter (some m) clock (seen.push e.born) clock)).heap[m]? = some (.map es clock) := by
      simp only [ChangeMaps.setBlock, hw.1]
      rw [Array.getElem?_setIfInBounds_ne hne]
      exact hb
    simp [execOp, hop, hit, hrun, Result.andThen]
    refine hK' _ _ (hMore e _ he hm (by simp [ChangeMaps.setBlock, hw.1]) ⟨hw.2.1, hw.2.2.1, hw.2.2.2, by simp [ChangeMaps.setBlock, hw.1], fun k _ hk => ?_⟩ h1 (run_entry_at _ r m clock seen es clock e h1 h2 hm hs.2))
    simp at hk
    simp only [ChangeMaps.setBlock, hw.1]
    rw [Array.getElem?_setIfInBounds_ne (Ne.symm hk)]
#print axioms wpList_append_place
#print axioms wpList_range_m
#print axioms wpList_next_m
end Go.Proofs.YtgfmcjneglnnpaaDoor
