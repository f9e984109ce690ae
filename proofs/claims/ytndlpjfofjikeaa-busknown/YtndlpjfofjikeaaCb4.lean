/-
  What has come and what waits: each number once, in the order; in memory.
-/
import Derived.Test.YtndlpjfofjikeaaCa4
import Derived.Test.YtndlpjfofjikeaaBz4
namespace Go.Proofs.Ytndlpjfofjikeaa
open Go.RowKit

theorem at_mem {l : List Sn} {k : Nat} (h : k < l.length) : at_ l k ∈ l := List.mem_of_getElem? (at_some l k h)
theorem mem_at {l : List Sn} {x : Sn} (h : x ∈ l) : ∃ k, k < l.length ∧ at_ l k = x := by
  obtain ⟨k, hk, e⟩ := List.getElem_of_mem h
  refine ⟨k, hk, ?_⟩
  have := at_some l k hk
  rw [List.getElem?_eq_getElem hk, e] at this
  exact (Option.some.inj this).symm
theorem at_app_lt {l : List Sn} {x : Sn} {k : Nat} (h : k < l.length) : at_ (l ++ [x]) k = at_ l k := by
  unfold at_
  rw [List.getD_eq_getElem?_getD, List.getD_eq_getElem?_getD, List.getElem?_append_left h]
theorem at_app_eq {l : List Sn} {x : Sn} : at_ (l ++ [x]) l.length = x := by
  unfold at_
  rw [List.getD_eq_getElem?_getD, List.getElem?_append_right (Nat.le_refl _), Nat.sub_self]
  rfl
theorem Heap.least {l : List Sn} (h : Heap l l.length) {x : Sn} (hx : x ∈ l) : le (at_ l 0) x := by
  obtain ⟨k, hk, rfl⟩ := mem_at hx
  exact h.min k hk

/-- Each number once; of one identifier and kind in their order; what waits is behind what has come. -/
structure Once (C l : List Sn) (n : Nat) : Prop where
  perm : ((C ++ l).map Sn.nm).Perm ((List.range n).map (fun k : Nat => (k : Int)))
  ord : ∀ i j, i < j → j < C.length → (at_ C i).i = (at_ C j).i → (at_ C i).r = (at_ C j).r → (at_ C i).nm ≤ (at_ C j).nm
  ah : ∀ c ∈ C, ∀ x ∈ l, c.i = x.i → c.r = x.r → c.nm ≤ x.nm
theorem Once.zero : Once [] [] 0 := ⟨List.Perm.refl _, fun i j _ h => by simp at h, fun c h => by simp at h⟩
theorem Once.len {C l : List Sn} {n : Nat} (h : Once C l n) : C.length + l.length = n := by
  have := h.perm.length_eq
  simpa using this
theorem Once.rng {C l : List Sn} {n : Nat} (h : Once C l n) {x : Sn} (hx : x ∈ C ++ l) : 0 ≤ x.nm ∧ x.nm < n := by
  have := h.perm.mem_iff.1 (List.mem_map_of_mem (f := Sn.nm) hx)
  rw [List.mem_map] at this
  obtain ⟨k, hk, e⟩ := this
  rw [List.mem_range] at hk
  omega
theorem Once.send {C l l' : List Sn} {n : Nat} (h : Once C l n) {y : Sn} (hy : y.nm = n) (hp : l'.Perm (l ++ [y])) : Once C l' (n + 1) where
  perm := by
    have h1 : ((C ++ l').map Sn.nm).Perm ((C ++ (l ++ [y])).map Sn.nm) := ((List.Perm.refl C).append hp).map _
    refine h1.trans ?_
    rw [← List.append_assoc, List.map_append (l₁ := C ++ l), List.range_succ, List.map_append (l₁ := List.range n)]
    refine h.perm.append ?_
    simp [hy]
  ord := h.ord
  ah := fun c hc x hx e1 e2 => by
    rcases List.mem_append.1 (hp.mem_iff.1 hx) with h1 | h1
    · exact h.ah c hc x h1 e1 e2
    · rw [List.mem_singleton] at h1
      subst h1
      have := (h.rng (List.mem_append_left l hc)).2
      omega
theorem Once.take {C l m : List Sn} {n : Nat} (h : Once C l n) {x : Sn} (hp : (m ++ [x]).Perm l) (hx : ∀ y ∈ l, le x y) : Once (C ++ [x]) m n where
  perm := by
    refine List.Perm.trans ?_ h.perm
    refine List.Perm.map _ ?_
    rw [List.append_assoc]
    exact (List.Perm.refl C).append ((List.perm_append_comm).trans hp)
  ord := fun i j hij hj e1 e2 => by
    rw [List.length_append, List.length_singleton] at hj
    rcases Nat.lt_or_ge j C.length with c | c
    · rw [at_app_lt c, at_app_lt (by omega)] at *
      exact h.ord i j hij c e1 e2
    · obtain rfl : j = C.length := by omega
      rw [at_app_eq, at_app_lt hij] at *
      exact h.ah _ (at_mem hij) x (hp.mem_iff.1 (by simp)) e1 e2
  ah := fun c hc y hy e1 e2 => by
    have hy' : y ∈ l := hp.mem_iff.1 (List.mem_append_left _ hy)
    rcases List.mem_append.1 hc with h1 | h1
    · exact h.ah c h1 y hy' e1 e2
    · rw [List.mem_singleton] at h1
      subst h1
      have := hx y hy'
      rw [le_iff] at this
      by_cases h2 : y.nm < c.nm
      · exact absurd (.inr ⟨e1.symm, .inr ⟨e2.symm, h2⟩⟩) this
      · omega
theorem nodup_range (n : Nat) : ((List.range n).map (fun k : Nat => (k : Int))).Nodup := by
  rw [List.Nodup, List.pairwise_map]
  exact (List.nodup_range (n := n)).imp (fun h e => h (by omega))
theorem Once.ne {C l : List Sn} {n : Nat} (h : Once C l n) {i j : Nat} (hij : i < j) (hj : j < C.length) : (at_ C i).nm ≠ (at_ C j).nm := by
  have h1 := h.perm.nodup_iff.2 (nodup_range n)
  rw [List.map_append] at h1
  have h2 : (C.map Sn.nm).Nodup := (List.nodup_append.1 h1).1
  rw [List.Nodup, List.pairwise_map, List.pairwise_iff_getElem] at h2
  have := h2 i j (by omega) hj hij
  have e1 := at_some C i (by omega)
  have e2 := at_some C j hj
  rw [List.getElem?_eq_getElem (by omega)] at e1 e2
  rw [← Option.some.inj e1, ← Option.some.inj e2]
  exact this
theorem Once.all {C : List Sn} {n : Nat} (h : Once C [] n) : C.length = n := by have := h.len; simpa using this

theorem isL_same {w w' : World} {base : Nat} {v : Value} {l : List Sn} (h : IsL w base v l) (hk : ∀ k, v.ownBlock = some k → w'.heap[k]? = w.heap[k]?) : IsL w' base v l := by
  refine ⟨h.1, ?_⟩
  rcases h.2 with ⟨h1, h2⟩ | ⟨g, cap, cur, hv, hb, hh, r⟩
  · exact .inl ⟨h1, h2⟩
  · exact .inr ⟨g, cap, cur, hv, hb, (hk g (by rw [hv]; rfl)).trans hh, r⟩
/-- A bus and what has come of it, side by side in memory. -/
structure Ev (w0 w : World) (p : Nat) (v cv : Value) (l C : List Sn) (n : Nat) : Prop where
  b : IsB w (p + 1) p v l (n : Int)
  c : IsL w (p + 1) cv C
  d : ∀ k, cv.ownBlock = some k → v.ownBlock ≠ some k
  hp : w0.heap.size ≤ p
  bel : Below w0.heap.size w0 w
  hh : Heap l l.length
  o : Once C l n
theorem Ev.lt {w0 w : World} {p : Nat} {v cv : Value} {l C : List Sn} {n : Nat} (h : Ev w0 w p v cv l C n) : p < w.heap.size := lt_of_heap h.b.head
theorem Ev.next {w0 w w' : World} {p : Nat} {v cv : Value} {l C : List Sn} {n : Nat} (h : Ev w0 w p v cv l C n) (k : Below w.heap.size w w') : Ev w0 w' p v cv l C n :=
  ⟨h.b.next k, isL_same h.c (fun i hi => k.block i (h.c.lt i hi).2), h.d, h.hp, Below.andThen h.bel k, h.hh, h.o⟩
theorem Ev.send {w0 w w' : World} {p : Nat} {v v' cv : Value} {l l' C : List Sn} {n : Nat} (h : Ev w0 w p v cv l C n) {y : Sn} (hy : y.nm = n) (hp : l'.Perm (l ++ [y])) (hh : Heap l' l'.length)
    (hat : ∀ k, v'.ownBlock = some k → v.ownBlock = some k ∨ w.heap.size ≤ k) (hb : IsB w' (p + 1) p v' l' (y.nm + 1)) (k : Kz p v.ownBlock w w') : Ev w0 w' p v' cv l' C (n + 1) where
  b := by rw [hy] at hb; exact hb
  c := isL_same h.c (fun i hi => k.block i (h.c.lt i hi).2 (by have := (h.c.lt i hi).1; omega) (fun e => h.d i hi e.symm))
  d := fun i hi e => by
    rcases hat i e with h1 | h1
    · exact h.d i hi h1
    · have := (h.c.lt i hi).2; omega
  hp := h.hp
  bel := ⟨k.os.trans h.bel.os, k.tape.trans h.bel.tape, k.output.trans h.bel.output, Nat.le_trans h.bel.size k.size, fun i hi => (k.block i (Nat.lt_of_lt_of_le hi h.bel.size) (by have := h.hp; omega) (fun e => by have := (h.b.own.lt i e.symm).1; have := h.hp; omega)).trans (h.bel.block i hi)⟩
  hh := hh
  o := h.o.send hy hp
theorem Ev.take {w0 w w' : World} {p g cap N : Nat} {cv : Value} {l m C : List Sn} {n : Nat} (h : Ev w0 w p (.slice (some ⟨g, 0, none⟩) (N + 1) cap) cv l C n) (hp : (m ++ [at_ l 0]).Perm l) (k : Kp [p, g] w w') :
    IsL w' (p + 1) cv C ∧ (∀ k, cv.ownBlock = some k → k ≠ g) ∧ Below w0.heap.size w0 w' ∧ Once (C ++ [at_ l 0]) m n :=
  ⟨isL_same h.c (fun i hi => k.block i (h.c.lt i hi).2 (by
      have h1 := (h.c.lt i hi).1
      have h2 := h.d i hi
      simp only [List.mem_cons, List.not_mem_nil, or_false]
      rintro (e | e)
      · omega
      · exact h2 (by rw [e]; rfl))),
    fun i hi e => h.d i hi (by rw [e]; rfl),
    Kp.below h.bel k h.bel.size (by
      intro i hi
      simp at hi
      have := h.hp
      have := h.b.old.1
      omega),
    h.o.take hp (fun y hy => h.hh.least hy)⟩
/-- Where one has been put behind what has come. -/
theorem Ev.app {w0 w w' : World} {p : Nat} {v cv cv' : Value} {l C C' : List Sn} {n : Nat} (hb : IsB w (p + 1) p v l (n : Int)) (hc : IsL w (p + 1) cv C) (hd : ∀ k, cv.ownBlock = some k → v.ownBlock ≠ some k) (hp : w0.heap.size ≤ p) (hbel : Below w0.heap.size w0 w) (hh : Heap l l.length) (ho : Once C' l n)
    (hc' : IsL w' (p + 1) cv' C') (hg : w.grownBy w' cv.ownBlock) (hat : ∀ k, cv'.ownBlock = some k → cv.ownBlock = some k ∨ w.heap.size ≤ k) : Ev w0 w' p v cv' l C' n where
  b := ⟨by rw [hg.block p (lt_of_heap hb.head) (fun e => by have := (hc.lt p e.symm).1; omega)]; exact hb.head, isL_same hb.own (fun i hi => hg.block i (hb.own.lt i hi).2 (fun e => hd i e.symm hi)), hb.lt⟩
  c := hc'
  d := fun i hi e => by
    rcases hat i hi with h1 | h1
    · exact hd i h1 e
    · have := (hb.own.lt i e).2; omega
  hp := hp
  bel := ⟨hg.os.trans hbel.os, hg.tape.trans hbel.tape, hg.output.trans hbel.output, Nat.le_trans hbel.size hg.size, fun i hi => (hg.block i (Nat.lt_of_lt_of_le hi hbel.size) (fun e => by have := (hc.lt i e.symm).1; omega)).trans (hbel.block i hi)⟩
  hh := hh
  o := ho
#print axioms Ev.send
#print axioms Ev.take
#print axioms Ev.app
end Go.Proofs.Ytndlpjfofjikeaa
