/-
  What waits on a bus and on the document's bus: the same, the one a heap, the other in its order.
-/
import Derived.Test.YtndlpjfofjikeaaCt4
import Derived.Test.YtndlpjfofjikeaaCn4
namespace Go.Proofs.Ytndlpjfofjikeaa
open Go.RowKit

theorem inOrder_pw {l : List Sn} (h : InOrder l) : l.Pairwise le := by
  rw [List.pairwise_iff_getElem]
  intro i j hi hj hij
  have h1 := h i j hij hj
  have e1 := at_some l i hi
  have e2 := at_some l j hj
  rw [List.getElem?_eq_getElem hi] at e1
  rw [List.getElem?_eq_getElem hj] at e2
  rw [Option.some.inj e1, Option.some.inj e2]
  exact h1
theorem le_anti {x y : Sn} (h : le x y) (k : le y x) : x.nm = y.nm := by
  rw [le_iff] at h k
  cases hx : x.r <;> cases hy : y.r <;> simp [hx, hy] at h k <;> omega
/-- Two rows of the same in the same order are the same. -/
theorem order_one : ∀ (m L : List Sn), m.Perm L → m.Pairwise le → L.Pairwise le → (∀ x ∈ L, ∀ y ∈ L, x.nm = y.nm → x = y) → m = L
  | [], L, h, _, _, _ => by rw [List.nil_perm.1 h]
  | x :: m, [], h, _, _, _ => by have := h.length_eq; simp at this
  | x :: m, y :: L, h, h1, h2, h3 => by
    have hx : x ∈ y :: L := h.mem_iff.1 (by simp)
    have hy : y ∈ x :: m := h.mem_iff.2 (by simp)
    have e : x = y := by
      rcases List.mem_cons.1 hy with e | e
      · exact e.symm
      · rcases List.mem_cons.1 hx with e' | e'
        · exact e'
        · exact h3 x hx y (by simp) (le_anti ((List.pairwise_cons.1 h1).1 y e) ((List.pairwise_cons.1 h2).1 x e'))
    subst e
    rw [order_one m L (h.cons_inv) (List.pairwise_cons.1 h1).2 (List.pairwise_cons.1 h2).2 (fun a ha b hb => h3 a (List.mem_cons_of_mem _ ha) b (List.mem_cons_of_mem _ hb))]
/-- What waits, as a heap and in its order. -/
structure Two (l L : List Sn) (n : Nat) : Prop where
  perm : L.Perm l
  ord : L.Pairwise le
  one : ∀ x ∈ L, ∀ y ∈ L, x.nm = y.nm → x = y
  rng : ∀ x ∈ L, 0 ≤ x.nm ∧ x.nm < n
  nd : L.Nodup
theorem Two.zero : Two [] [] 0 := ⟨List.Perm.refl _, List.Pairwise.nil, fun x h => by simp at h, fun x h => by simp at h, List.nodup_nil⟩
theorem Two.len {l L : List Sn} {n : Nat} (h : Two l L n) : L.length = l.length := h.perm.length_eq
theorem Two.waits {l L m : List Sn} {n : Nat} (h : Two l L n) (hp : m.Perm l) (ho : InOrder m) : m = L := order_one m L (hp.trans h.perm.symm) (inOrder_pw ho) h.ord h.one
theorem Two.next {l L m : List Sn} {n : Nat} (h : Two l L n) (hh : Heap l l.length) (hl : l ≠ []) (hp : (m ++ [at_ l 0]).Perm l) : ∃ t, L = at_ l 0 :: t ∧ Two m t n := by
  have h0 : at_ l 0 ∈ l := at_mem (List.length_pos_iff.2 hl)
  cases L with
  | nil => have := h.len; simp at this; exact absurd (List.eq_nil_of_length_eq_zero this.symm) hl
  | cons y t =>
    have hy : y ∈ l := h.perm.mem_iff.1 (by simp)
    have hx : at_ l 0 ∈ y :: t := h.perm.mem_iff.2 h0
    have e : at_ l 0 = y := by
      rcases List.mem_cons.1 hx with e' | e'
      · exact e'
      · exact h.one _ hx y (by simp) (le_anti (hh.least hy) ((List.pairwise_cons.1 h.ord).1 _ e'))
    refine ⟨t, by rw [e], ?_, (List.pairwise_cons.1 h.ord).2, fun a ha b hb => h.one a (List.mem_cons_of_mem _ ha) b (List.mem_cons_of_mem _ hb), fun a ha => h.rng a (List.mem_cons_of_mem _ ha), (List.nodup_cons.1 h.nd).2⟩
    have h1 : (y :: t).Perm (y :: m) := h.perm.trans (hp.symm.trans (by rw [e]; exact List.perm_append_comm))
    exact h1.cons_inv
theorem insN_perm (y : Sn) (L : List Sn) : (insN y L).Perm (L ++ [y]) := by
  unfold insN
  rw [List.append_assoc]
  have h1 : ([y] ++ L.drop (aheadN y L)).Perm (L.drop (aheadN y L) ++ [y]) := List.perm_append_comm
  have h2 := (List.Perm.refl (L.take (aheadN y L))).append h1
  have e : L.take (aheadN y L) ++ (L.drop (aheadN y L) ++ [y]) = L ++ [y] := by rw [← List.append_assoc, List.take_append_drop]
  rw [e] at h2
  exact h2
theorem insN_ord (y : Sn) (L : List Sn) (h : L.Pairwise le) : (insN y L).Pairwise le := by
  have hs := h
  rw [← List.take_append_drop (aheadN y L) L, List.pairwise_append] at hs
  obtain ⟨h1, h2, h3⟩ := hs
  have ht : ∀ x ∈ L.take (aheadN y L), le x y := fun x hx => by
    obtain ⟨k, hk, e⟩ := List.getElem_of_mem hx
    rw [List.length_take] at hk
    have a1 := at_some L k (by omega)
    have a2 : (L.take (aheadN y L))[k]? = some x := by rw [List.getElem?_eq_getElem (by rw [List.length_take]; exact hk), e]
    rw [List.getElem?_take, if_pos (by omega), a1] at a2
    rw [← Option.some.inj a2]
    exact le_of_ahead (aheadN_lt y L k (by omega))
  have hd : ∀ x ∈ L.drop (aheadN y L), le y x := fun x hx => by
    obtain ⟨k, hk, e⟩ := List.getElem_of_mem hx
    rw [List.length_drop] at hk
    have hst := aheadN_stop y L (by omega)
    have h0 : le y (at_ L (aheadN y L)) := hst
    have a1 := at_some L (aheadN y L + k) (by omega)
    have a2 : (L.drop (aheadN y L))[k]? = some x := by rw [List.getElem?_eq_getElem (by rw [List.length_drop]; exact hk), e]
    rw [List.getElem?_drop, a1] at a2
    have e2 := Option.some.inj a2
    rcases Nat.eq_zero_or_pos k with c | c
    · subst c
      rw [← e2]
      exact h0
    · refine le_trans h0 ?_
      rw [← e2]
      rw [List.pairwise_iff_getElem] at h
      have := h (aheadN y L) (aheadN y L + k) (by omega) (by omega) (by omega)
      have b1 := at_some L (aheadN y L) (by omega)
      rw [List.getElem?_eq_getElem (by omega)] at a1 b1
      rw [← Option.some.inj a1, ← Option.some.inj b1]
      exact this
  unfold insN
  rw [List.append_assoc, List.pairwise_append]
  refine ⟨h1, ?_, fun a ha b hb => ?_⟩
  · rw [List.singleton_append, List.pairwise_cons]
    exact ⟨hd, h2⟩
  · rw [List.singleton_append, List.mem_cons] at hb
    rcases hb with rfl | hb
    · exact ht a ha
    · exact h3 a ha b hb
theorem Two.send {l l' L : List Sn} {n : Nat} (h : Two l L n) {y : Sn} (hy : y.nm = n) (hp : l'.Perm (l ++ [y])) : Two l' (insN y L) (n + 1) := by
  have hm : ∀ x, x ∈ insN y L ↔ x ∈ L ∨ x = y := fun x => by rw [(insN_perm y L).mem_iff]; simp
  refine ⟨(insN_perm y L).trans ((h.perm.append (List.Perm.refl _)).trans hp.symm), insN_ord y L h.ord, fun a ha b hb e => ?_, fun a ha => ?_, ?_⟩
  · rcases (hm a).1 ha with h1 | h1 <;> rcases (hm b).1 hb with h2 | h2
    · exact h.one a h1 b h2 e
    · subst h2; have := h.rng a h1; omega
    · subst h1; have := h.rng b h2; omega
    · rw [h1, h2]
  · rcases (hm a).1 ha with h1 | h1
    · have := h.rng a h1; omega
    · subst h1; omega
  · rw [(insN_perm y L).nodup_iff, List.nodup_append]
    refine ⟨h.nd, by simp, fun a ha b hb e => ?_⟩
    rw [List.mem_singleton] at hb
    subst hb e
    have := h.rng a ha
    omega
theorem Two.gone {l l' L : List Sn} {n : Nat} (h : Two l L n) (nd : Int) (hp : l'.Perm (l.filter (keepB nd))) : Two l' (L.filter (keepB nd)) n := by
  have hm : ∀ x, x ∈ L.filter (keepB nd) → x ∈ L := fun x hx => (List.mem_filter.1 hx).1
  exact ⟨(h.perm.filter _).trans hp.symm, h.ord.sublist List.filter_sublist, fun a ha b hb => h.one a (hm a ha) b (hm b hb), fun a ha => h.rng a (hm a ha), h.nd.sublist List.filter_sublist⟩
#print axioms Two.next
#print axioms Two.send
#print axioms Two.gone
end Go.Proofs.Ytndlpjfofjikeaa
