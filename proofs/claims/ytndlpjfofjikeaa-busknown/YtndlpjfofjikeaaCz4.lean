/-
  Two pairs of buses: the one that is played on, and the one that was left behind.
-/
import Derived.Test.YtndlpjfofjikeaaCy4
namespace Go.Proofs.Ytndlpjfofjikeaa
open Go.RowKit

/-- A pair is left alone by what touches another. -/
theorem Pl.far {w w' : World} {pa pb qa qb : Nat} {v v1 u x y : Value} {l L m M : List Sn} {n k : Nat} (h : Pl w pa v pb u l L n) (g : Pl w qa x qb y m M k) (hk : Kv pa v v1 pb w w') (h1 : qa ≠ pa) (h2 : qb ≠ pb) (h3 : ∀ j, v.ownBlock = some j → x.ownBlock ≠ some j) : Pl w' qa x qb y m M k := by
  have row : ∀ (z : Value) (q : Nat) (e : List Sn) (c : Int), IsB w 0 q z e c → ∀ j, z.ownBlock = some j → ∃ A, w.heap[j]? = some (.cells A 42 (0, 0)) := fun z q e c hz j hj => by
    rcases hz.own.2 with ⟨q1, _⟩ | ⟨g', cap, cur, hv, _, hh, _⟩
    · rw [q1] at hj; cases hj
    · rw [hv] at hj
      simp only [Value.ownBlock] at hj
      cases hj
      exact ⟨cur, hh⟩
  have ty : ∀ (i j : Nat) (A B : Array Value) (S T : TypeId), w.heap[i]? = some (.cells A S (0, 0)) → w.heap[j]? = some (.cells B T (0, 0)) → S ≠ T → i ≠ j := fun i j A B S T hi hj hST => by
    rintro rfl
    rw [hi] at hj
    simp at hj
    exact hST hj.2
  have own : ∀ (i : Nat) (A : Array Value) (S : TypeId), w.heap[i]? = some (.cells A S (0, 0)) → S ≠ 42 → some i ≠ v.ownBlock := fun i A S hi hS e => by
    obtain ⟨B, hB⟩ := row v pa l _ h.b i e.symm
    exact ty i i A B S 42 hi hB hS rfl
  refine ⟨⟨(hk.block qa (lt_of_heap g.b.head) h1 (own qa _ _ g.b.head (by decide)) (ty qa pb _ _ _ _ g.b.head h.d.head (by decide))).trans g.b.head, isL_same g.b.own (fun j hj => ?_), trivial⟩, ⟨(hk.block qb (lt_of_heap g.d.head) (ty qb pa _ _ _ _ g.d.head h.b.head (by decide)) (own qb _ _ g.d.head (by decide)) h2).trans g.d.head, g.d.r.same (fun j cur _ hj => ?_)⟩, g.t, g.hh⟩
  · obtain ⟨A, hA⟩ := row x qa m _ g.b j hj
    exact hk.block j (lt_of_heap hA) (ty j pa _ _ _ _ hA h.b.head (by decide)) (fun e => h3 j e.symm hj) (ty j pb _ _ _ _ hA h.d.head (by decide))
  · exact hk.block j (lt_of_heap hj) (ty j pa _ _ _ _ hj h.b.head (by decide)) (own j _ _ hj (by decide)) (ty j pb _ _ _ _ hj h.d.head (by decide))
/-- The pair that is played on and the one left behind: the same, or apart. -/
structure Sta (w0 w : World) (pa pb qa qb N : Nat) : Prop where
  ex : ∃ v u l L n x y m M k, Pl w pa v pb u l L n ∧ Pl w qa x qb y m M k ∧ n ≤ N ∧ k ≤ N ∧ w0.heap.size ≤ pa ∧ w0.heap.size ≤ pb ∧ (∀ j, v.ownBlock = some j → w0.heap.size ≤ j) ∧ ((pa = qa ∧ pb = qb ∧ v = x) ∨ (qa ≠ pa ∧ qb ≠ pb ∧ ∀ j, v.ownBlock = some j → x.ownBlock ≠ some j))
  bel : Below w0.heap.size w0 w
theorem Sta.next {w0 w w' : World} {pa pb qa qb N : Nat} (h : Sta w0 w pa pb qa qb N) (b : Below w.heap.size w w') : Sta w0 w' pa pb qa qb N := by
  obtain ⟨v, u, l, L, n, x, y, m, M, k, h1, h2, h3, h4, h5, h6, h7, h8⟩ := h.ex
  exact ⟨⟨v, u, l, L, n, x, y, m, M, k, h1.next b, h2.next b, h3, h4, h5, h6, h7, h8⟩, Below.andThen h.bel b⟩
theorem Sta.more {w0 w : World} {pa pb qa qb N N' : Nat} (h : Sta w0 w pa pb qa qb N) (hN : N ≤ N') : Sta w0 w pa pb qa qb N' := by
  obtain ⟨v, u, l, L, n, x, y, m, M, k, h1, h2, h3, h4, h5⟩ := h.ex
  exact ⟨⟨v, u, l, L, n, x, y, m, M, k, h1, h2, by omega, by omega, h5⟩, h.bel⟩
/-- Behind a call of both. -/
theorem sta_one {w0 w w' : World} {pa pb qa qb N N' n' : Nat} {v v' u u' x y : Value} {l L l' L' m M : List Sn} {n k : Nat} (h1 : Pl w pa v pb u l L n) (h2 : Pl w qa x qb y m M k) (h4 : k ≤ N) (h5 : w0.heap.size ≤ pa) (h6 : w0.heap.size ≤ pb) (h7 : ∀ j, v.ownBlock = some j → w0.heap.size ≤ j) (h8 : (pa = qa ∧ pb = qb ∧ v = x) ∨ (qa ≠ pa ∧ qb ≠ pb ∧ ∀ j, v.ownBlock = some j → x.ownBlock ≠ some j))
    (hb : Below w0.heap.size w0 w) (hP : Pl w' pa v' pb u' l' L' n') (hK : Kv pa v v' pb w w') (hN : N ≤ N') (hn : n' ≤ N') : Sta w0 w' pa pb qa qb N' := by
  have hs := hb.size
  refine ⟨?_, ⟨hK.os.trans hb.os, hK.tape.trans hb.tape, hK.output.trans hb.output, Nat.le_trans hb.size hK.size, fun i hi => (hK.block i (by omega) (by omega) (fun e => by have := h7 i e.symm; omega) (by omega)).trans (hb.block i hi)⟩⟩
  have h7' : ∀ j, v'.ownBlock = some j → w0.heap.size ≤ j := fun j hj => by
    rcases hK.at_ j hj with q | q
    · exact h7 j q
    · omega
  rcases h8 with ⟨e1, e2, _⟩ | ⟨e1, e2, e3⟩
  · subst e1 e2
    exact ⟨v', u', l', L', n', v', u', l', L', n', hP, hP, hn, hn, h5, h6, h7', .inl ⟨rfl, rfl, rfl⟩⟩
  · refine ⟨v', u', l', L', n', x, y, m, M, k, hP, h1.far h2 hK e1 e2 e3, hn, by omega, h5, h6, h7', .inr ⟨e1, e2, fun j hj e => ?_⟩⟩
    rcases hK.at_ j hj with q | q
    · exact e3 j q e
    · have := (h2.b.own.lt j e).2; omega
#print axioms sta_one
end Go.Proofs.Ytndlpjfofjikeaa
