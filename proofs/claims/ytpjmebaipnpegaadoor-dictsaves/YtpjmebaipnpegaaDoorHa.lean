/-
  Rows of places in memory; a range over a map.
-/
import Derived.Test.YtpjmebaipnpegaaDoorHr
import Derived.Deep.RegionLaw
import Derived.WalkSmall
namespace Go.Proofs.YtpjmebaipnpegaaDoor
open Go.RowKit

def Pq.L (x : Pq) : List Value := x.A.toList
/-- The cells of a row of them. -/
def flq (l : List Pq) : List Value := l.flatMap Pq.L
theorem Pq.L_len (x : Pq) : x.L.length = 2 := rfl
theorem flq_len (l : List Pq) : (flq l).length = l.length * 2 := by
  unfold flq
  induction l with
  | nil => rfl
  | cons x l ih => rw [List.flatMap_cons, List.length_append, ih, Pq.L_len, List.length_cons]; omega
theorem flq_app (l m : List Pq) : flq (l ++ m) = flq l ++ flq m := by unfold flq; rw [List.flatMap_append]
theorem flq_one (x : Pq) : flq [x] = x.L := by unfold flq; simp
theorem flq_at (l : List Pq) (i : Nat) (x : Pq) (h : l[i]? = some x) : ((flq l).drop (i * 2)).take 2 = x.L := by
  obtain ⟨hi, he⟩ := List.getElem?_eq_some_iff.1 h
  have e : l = l.take i ++ (x :: l.drop (i + 1)) := by rw [← he, List.getElem_cons_drop, List.take_append_drop]
  have e2 : flq l = flq (l.take i) ++ (x.L ++ flq (l.drop (i + 1))) := by
    conv => lhs; rw [e]
    rw [flq_app]
    rfl
  have hl : (flq (l.take i)).length = i * 2 := by rw [flq_len, List.length_take]; congr 1; omega
  rw [e2, List.drop_append_of_le_length (by omega), List.drop_of_length_le (by omega), List.nil_append, List.take_append_of_le_length (by rw [Pq.L_len]; omega), List.take_of_length_le (by rw [Pq.L_len]; omega)]
/-- What waits, in memory of its own. -/
abbrev IsQ (w : World) (base : Nat) (v : Value) (l : List Pq) : Prop := w.ownsRow base 33 2 v l.length (flq l)
theorem IsQ.form {w : World} {base : Nat} {v : Value} {l : List Pq} (h : IsQ w base v l) : (v = .slice none 0 0 ∧ l = []) ∨ ∃ g cap cur, v = .slice (some ⟨g, 0, none⟩) l.length cap ∧ base ≤ g ∧ w.heap[g]? = some (.cells cur 33 (0, 0)) ∧ l.length ≤ cap ∧ cap ≤ maxLen ∧ cur.size = cap * 2 ∧ cur.toList.take (l.length * 2) = flq l := by
  rcases h.2 with ⟨h1, h2⟩ | ⟨g, cap, cur, hv, hg, hh, hn, hm, hs, ht⟩
  · exact .inl ⟨h1, List.eq_nil_of_length_eq_zero h2⟩
  · exact .inr ⟨g, cap, cur, hv, hg, hh, hn, hm, hs, ht⟩
/-- One of them out of memory. -/
theorem IsQ.load {w : World} {base g cap : Nat} {l : List Pq} (h : IsQ w base (.slice (some ⟨g, 0, none⟩) l.length cap) l) (i : Nat) (x : Pq) (hx : l[i]? = some x) : (loadVar 33 ⟨g, i * 2, none⟩).run Tryd.prog w = .ok (.agg x.A) w := by
  have hi : i < l.length := (List.getElem?_eq_some_iff.1 hx).1
  rcases h.form with ⟨h1, _⟩ | ⟨g', cap', cur, hv, _, hh, hn, _, hs, ht⟩
  · cases h1
  · cases hv
    have := load_part 33 2 sizeP aggP w g (i * 2) cur.toList 33 hh (by simp [hs]; omega)
    rw [this]
    have e : (cur.toList.drop (i * 2)).take 2 = x.L := by
      rw [← flq_at l i x hx, ← ht, List.drop_take, List.take_take, Nat.min_eq_left (by omega)]
    rw [e]
    rfl
/-- One of them into memory. -/
theorem IsQ.store {w : World} {base g cap : Nat} {l : List Pq} (h : IsQ w base (.slice (some ⟨g, 0, none⟩) l.length cap) l) (i : Nat) (x : Pq) (hi : i < l.length) : ∃ w', (storeVar 33 ⟨g, i * 2, none⟩ (.agg x.A)).run Tryd.prog w = .ok () w' ∧ IsQ w' base (.slice (some ⟨g, 0, none⟩) l.length cap) (l.set i x) ∧ Kp [g] w w' := by
  rcases h.form with ⟨h1, _⟩ | ⟨g', cap', cur, hv, hg, hh, hn, hm, hs, ht⟩
  · cases h1
  · cases hv
    refine ⟨_, store_part 33 2 sizeP w g (i * 2) cur 33 hh x.L (Pq.L_len x) (by rw [hs]; omega) (by intro v hv; simp [Pq.L] at hv; rcases hv with rfl | rfl <;> rfl), ⟨by rw [flq_len], .inr ⟨g, cap, _, by rw [List.length_set], hg, setRow_heap w g cur _ _ _ hh, by rw [List.length_set]; exact hn, hm, ?_, ?_⟩⟩, (Kp.refl _ _).row _ _ (.inl (by simp))⟩
    · simp [Pq.L_len, hs]; omega
    · have e : l.set i x = l.take i ++ (x :: l.drop (i + 1)) := by rw [List.set_eq_take_append_cons_drop, if_pos hi]
      have hl : (flq (l.take i)).length = i * 2 := by rw [flq_len, List.length_take]; congr 1; omega
      have ef : flq (l.set i x) = flq (l.take i) ++ (x.L ++ flq (l.drop (i + 1))) := by rw [e, flq_app]; rfl
      have f1 : flq (l.take i) = cur.toList.take (i * 2) := by
        have : (flq l).take (i * 2) = flq (l.take i) := by
          conv => lhs; rw [← List.take_append_drop i l, flq_app]
          rw [List.take_append_of_le_length (by omega), List.take_of_length_le (by omega)]
        rw [← this, ← ht, List.take_take, Nat.min_eq_left (by omega)]
      have f2 : flq (l.drop (i + 1)) = (cur.toList.drop ((i + 1) * 2)).take ((l.length - (i + 1)) * 2) := by
        have hl2 : (flq (l.take (i + 1))).length = (i + 1) * 2 := by rw [flq_len, List.length_take]; congr 1; omega
        have : (flq l).drop ((i + 1) * 2) = flq (l.drop (i + 1)) := by
          conv => lhs; rw [← List.take_append_drop (i + 1) l, flq_app]
          rw [List.drop_append_of_le_length (by omega), List.drop_of_length_le (by omega), List.nil_append]
        rw [← this, ← ht, List.drop_take]
        congr 1; omega
      have hc1 : (cur.toList.take (i * 2)).length = i * 2 := by rw [List.length_take]; simp [hs]; omega
      have hA : (cur.toList.take (i * 2) ++ x.L).length = (i + 1) * 2 := by rw [List.length_append, hc1, Pq.L_len]; omega
      rw [List.length_set, List.toList_toArray, List.take_append, List.take_of_length_le (by rw [hA]; omega), hA, ef, f1, f2, List.append_assoc, Pq.L_len, show i * 2 + 2 = (i + 1) * 2 from by omega, show l.length * 2 - (i + 1) * 2 = (l.length - (i + 1)) * 2 from by omega]

theorem IsQ.isSome {w : World} {base : Nat} {v : Value} {l : List Pq} (h : IsQ w base v l) (hl : l ≠ []) : ∃ g cap, v = .slice (some ⟨g, 0, none⟩) l.length cap := by
  rcases h.form with ⟨_, h2⟩ | ⟨g, cap, _, hv, _⟩
  · exact absurd h2 hl
  · exact ⟨g, cap, hv⟩
theorem infoQ : (Tryd.prog.info? 33).map (fun i => (i.zero, i.size, i.bytes)) = some (some (.agg #[.int .u16 0, .int .u8 0]), 2, 4) := by kernel_rfl
theorem ext_grown {w w' : World} {row : Option Nat} {base : Nat} {v : Value} {l : List Pq} (h : IsQ w base v l) (hg : w.grownBy w' row) (hr : ∀ j, row = some j → j < base) : IsQ w' base v l :=
  h.kept hg (by
    cases e : v.ownBlock with
    | none => exact .inl rfl
    | some b => exact .inr fun q => by have := (h.lt b e).1; have := hr b q.symm; omega)
/-- One place put behind those of a row of its own. -/
theorem wpList_append_place {ops : Array Oper} {rest : List Oper} {o : Oper} {a : Act} {w : World} {Q : Exit → Act → World → Prop} (hgd : o.guard = none) (s x : Operand)
    (ho : o.op = .call { callee := .builtin .append, args := #[s, x], argTypes := #[65, 65] }) (base : Nat) (v : Value) (l : List Pq) (hs : a.eval s = v) (hown : IsQ w base v l)
    (ad : Addr) (y : Pq) (hx : a.eval x = .slice (some ad) 1 1) (hnews : ∀ j u, y.L[j]? = some u → w.cell? (ad.add j) = some u) (h63 : l.length ≤ 1000000) (hbase : base ≤ w.heap.size)
    (h : ∀ v' w', IsQ w' base v' (l ++ [y]) → w.grownBy w' v.ownBlock → wpList Tryd.prog ops Q rest (a.put o.dst v') w') : wpList Tryd.prog ops Q (o :: rest) a w := by
  obtain ⟨i0, hi, hz0, hz1, hz2⟩ := info_parts infoQ
  refine wpList_append_own (P := Tryd.prog) w hgd s x 65 ho base 33 i0 _ 2 4 Tryd.underlying65 hi hz0 hz1 hz2 rfl (by decide) v l.length _ hs hown ad 1 1 y.L hx (Pq.L_len y) hnews (fun u hu => by simp [Pq.L] at hu; rcases hu with rfl | rfl <;> rfl) (by unfold maxLen; omega) (by omega) hbase ?_
  intro v' w' h1 h2 _
  refine h v' w' ?_ h2
  show w'.ownsRow base 33 2 v' (l ++ [y]).length (flq (l ++ [y]))
  rw [flq_app, flq_one, List.length_append]
  exact h1

#print axioms wpList_append_place
end Go.Proofs.YtpjmebaipnpegaaDoor
