/-
  Both sides of errors, apart, side by side.
-/
import Derived.Test.YtnbdnmfnmnboiaaZs
namespace Go.Proofs.Ytnbdnmfnmnboiaa
open Go.RowKit

/-- Both sides, apart, our own since a world, in none of some blocks. -/
def Tw (w0 w : World) (p m q : Nat) (S R : ES) (A : List Nat) : Prop := ∃ v sv fv wv t, IsE w p m v S ∧ IsD w q sv fv wv R t ∧ (∀ k ∈ fpE p m v, w0.heap.size ≤ k ∧ k ∉ fpD q sv fv wv ∧ k ∉ A) ∧ (∀ k ∈ fpD q sv fv wv, w0.heap.size ≤ k ∧ k ∉ A) ∧ (∀ a ∈ A, a < w.heap.size) ∧ Below w0.heap.size w0 w
theorem Tw.bel {w0 w : World} {p m q : Nat} {S R : ES} {A : List Nat} (h : Tw w0 w p m q S R A) : Below w0.heap.size w0 w := by
  obtain ⟨v, sv, fv, wv, t, _, _, _, _, _, hb⟩ := h
  exact hb
theorem Tw.next {w0 w w' : World} {p m q : Nat} {S R : ES} {A : List Nat} (h : Tw w0 w p m q S R A) (hb : Below w.heap.size w w') : Tw w0 w' p m q S R A := by
  obtain ⟨v, sv, fv, wv, t, h1, h2, h3, h4, h5, h6⟩ := h
  exact ⟨v, sv, fv, wv, t, h1.next hb, h2.next hb, h3, h4, fun a ha => Nat.lt_of_lt_of_le (h5 a ha) hb.size, Below.trans h6 (hb.mono h6.size)⟩
/-- One block more, a new one. -/
theorem Tw.add {w0 w w' : World} {p m q : Nat} {S R : ES} {A : List Nat} (h : Tw w0 w p m q S R A) (hb : Below w.heap.size w w') (B : Nat) (h0 : w.heap.size ≤ B) (h1 : B < w'.heap.size) : Tw w0 w' p m q S R (B :: A) := by
  obtain ⟨v, sv, fv, wv, t, e, d, h2, h3, h4, h5⟩ := h
  refine ⟨v, sv, fv, wv, t, e.next hb, d.next hb, fun k hk => ⟨(h2 k hk).1, (h2 k hk).2.1, fun hm => ?_⟩, fun k hk => ⟨(h3 k hk).1, fun hm => ?_⟩, fun a ha => ?_, Below.trans h5 (hb.mono h5.size)⟩
  · rcases List.mem_cons.1 hm with rfl | hm
    · have := e.inh _ hk; omega
    · exact (h2 k hk).2.2 hm
  · rcases List.mem_cons.1 hm with rfl | hm
    · have := d.inh _ hk; omega
    · exact (h3 k hk).2 hm
  · rcases List.mem_cons.1 ha with rfl | ha
    · exact h1
    · exact Nat.lt_of_lt_of_le (h4 a ha) hb.size
/-- Fewer blocks. -/
theorem Tw.less {w0 w : World} {p m q : Nat} {S R : ES} {A A' : List Nat} (h : Tw w0 w p m q S R A) (hA : ∀ a ∈ A', a ∈ A) : Tw w0 w p m q S R A' := by
  obtain ⟨v, sv, fv, wv, t, e, d, h2, h3, h4, h5⟩ := h
  exact ⟨v, sv, fv, wv, t, e, d, fun k hk => ⟨(h2 k hk).1, (h2 k hk).2.1, fun hm => (h2 k hk).2.2 (hA k hm)⟩, fun k hk => ⟨(h3 k hk).1, fun hm => (h3 k hk).2 (hA k hm)⟩, fun a ha => h4 a (hA a ha), h5⟩
/-- A call of the program's. -/
theorem Tw.callE {w0 w : World} {p m q : Nat} {S R S' : ES} {A : List Nat} {f : Nat} {args : Array Value} {X : Ending} (h : Tw w0 w p m q S R A) (hc : ∀ v, IsE w p m v S → Calls Try.prog f args w fun e w' => e = X ∧ EPost w w' p m v S') : Calls Try.prog f args w fun e w' => e = X ∧ Tw w0 w' p m q S' R A ∧ ∀ a ∈ A, w'.heap[a]? = w.heap[a]? := by
  obtain ⟨v, sv, fv, wv, t, h1, h2, h3, h4, h5, h6⟩ := h
  refine (hc v h1).mono ?_
  rintro e w' ⟨rfl, v', e, g, k⟩
  refine ⟨rfl, ⟨v', sv, fv, wv, t, e, h2.kp k (fun b hb hm => (h3 b hm).2.1 hb), fun b hb => ?_, h4, fun a ha => Nat.lt_of_lt_of_le (h5 a ha) k.size, Kp.below h6 k h6.size (fun b hb => (h3 b hb).1)⟩, fun a ha => k.block a (h5 a ha) (fun hm => (h3 a hm).2.2 ha)⟩
  simp only [List.mem_cons, Option.mem_toList] at hb
  rcases hb with rfl | rfl | hb
  · exact h3 _ (by simp)
  · exact h3 _ (by simp)
  · rcases g b hb with hh | hh
    · exact h3 b (by simp [hh])
    · exact ⟨by have := h6.size; omega, fun hm => by have := h2.inh b hm; omega, fun hm => by have := h5 b hm; omega⟩
/-- A call of the document's. -/
theorem Tw.callD {w0 w : World} {p m q : Nat} {S R R' : ES} {A : List Nat} {f : Nat} {args : Array Value} {X : Ending} (h : Tw w0 w p m q S R A) (hc : ∀ sv fv wv t, IsD w q sv fv wv R t → Calls Try.prog f args w fun e w' => e = X ∧ DPost w w' q sv fv wv R') : Calls Try.prog f args w fun e w' => e = X ∧ Tw w0 w' p m q S R' A ∧ ∀ a ∈ A, w'.heap[a]? = w.heap[a]? := by
  obtain ⟨v, sv, fv, wv, t, h1, h2, h3, h4, h5, h6⟩ := h
  refine (hc sv fv wv t h2).mono ?_
  rintro e w' ⟨rfl, sv', fv', wv', t', d, g, k⟩
  refine ⟨rfl, ⟨v, sv', fv', wv', t', h1.kp k (fun b hb => (h3 b hb).2.1), d, fun b hb => ⟨(h3 b hb).1, fun hm => ?_, (h3 b hb).2.2⟩, fun b hb => ?_, fun a ha => Nat.lt_of_lt_of_le (h5 a ha) k.size, Kp.below h6 k h6.size (fun b hb => (h4 b hb).1)⟩, fun a ha => k.block a (h5 a ha) (fun hm => (h4 a hm).2 ha)⟩
  · rcases g b hm with hh | hh
    · exact (h3 b hb).2.1 hh
    · have := h1.inh b hb
      omega
  · rcases g b hb with hh | hh
    · exact h4 b hh
    · exact ⟨by have := h6.size; omega, fun hm => by have := h5 b hm; omega⟩
theorem Tw.readE {w0 w : World} {p m q : Nat} {S R : ES} {A : List Nat} {f : Nat} {args : Array Value} {X : Ending} (h : Tw w0 w p m q S R A) (hc : ∀ v, IsE w p m v S → Calls Try.prog f args w fun e w' => e = X ∧ Below w.heap.size w w') : Calls Try.prog f args w fun e w' => e = X ∧ Tw w0 w' p m q S R A ∧ Below w.heap.size w w' := by
  have hh := h
  obtain ⟨v, sv, fv, wv, t, h1, h2, h3, h4, h5⟩ := hh
  refine (hc v h1).mono ?_
  rintro e w' ⟨rfl, hb⟩
  exact ⟨rfl, h.next hb, hb⟩
theorem Tw.readD {w0 w : World} {p m q : Nat} {S R : ES} {A : List Nat} {f : Nat} {args : Array Value} {X : Ending} (h : Tw w0 w p m q S R A) (hc : ∀ sv fv wv t, IsD w q sv fv wv R t → Calls Try.prog f args w fun e w' => e = X ∧ Below w.heap.size w w') : Calls Try.prog f args w fun e w' => e = X ∧ Tw w0 w' p m q S R A ∧ Below w.heap.size w w' := by
  have hh := h
  obtain ⟨v, sv, fv, wv, t, h1, h2, h3, h4, h5⟩ := hh
  refine (hc sv fv wv t h2).mono ?_
  rintro e w' ⟨rfl, hb⟩
  exact ⟨rfl, h.next hb, hb⟩
/-- The document's fields are made none, by the law. -/
theorem Tw.noFields {w0 w : World} {p m q : Nat} {S R : ES} {A : List Nat} (h : Tw w0 w p m q S R A) : Tw w0 (w.setCell ⟨q, 3, none⟩ (.slice none 0 0)) p m q S R.forget A ∧ (∀ a ∈ A, (w.setCell ⟨q, 3, none⟩ (.slice none 0 0)).heap[a]? = w.heap[a]?) ∧ w.frozen? ⟨q, 3, none⟩ = false ∧ (∃ u, w.cell? ⟨q, 3, none⟩ = some u) ∧ q < w.heap.size := by
  obtain ⟨v, sv, fv, wv, t, h1, h2, h3, h4, h5, h6⟩ := h
  have kk : Kp [q] w (w.setCell ⟨q, 3, none⟩ (.slice none 0 0)) := (Kp.refl _ _).set _ _ (.inl (by simp))
  have hz : (w.setCell ⟨q, 3, none⟩ (.slice none 0 0)).heap.size = w.heap.size := by simp [World.setCell]
  refine ⟨⟨v, sv, .slice none 0 0, wv, t, h1.kp kk (fun b hb hm => (h3 b hb).2.1 (by simp at hm; simp [hm])), ⟨heap_setCell_same _ _ 3 _ _ _ h2.head, h2.st.kp kk (fun b hb => by have h1 := h2.st.ne h2.head (by decide); rw [hb] at h1; simpa using h1), ?_, h2.ws.kp kk (fun b hb => by have h1 := h2.ws.ne h2.head (by decide); rw [hb] at h1; simpa using h1), forget_ok h2.ok, h2.dt, h2.a0, h2.a1⟩, fun b hb => ⟨(h3 b hb).1, fun hm => (h3 b hb).2.1 ?_, (h3 b hb).2.2⟩, fun b hb => h4 b ?_, fun a ha => by rw [hz]; exact h5 a ha, Kp.below h6 kk h6.size (fun b hb => by simp at hb; subst hb; exact (h4 b (by simp)).1)⟩, fun a ha => Below.heap_setCell _ _ _ _ (fun e => (h4 q (by simp)).2 (by have e2 : a = q := e; rw [← e2]; exact ha)), h2.fz 3, ⟨fv, h2.cell 3 fv rfl⟩, h2.lt⟩
  · exact own_nil _ _ _
  · simp [Value.ownBlock] at hm ⊢
    rcases hm with hm | hm | hm <;> simp [hm]
  · simp [Value.ownBlock] at hb ⊢
    rcases hb with hb | hb | hb <;> simp [hb]
theorem Tw.new {w w' w2 : World} {p m q : Nat} {S : ES} (h : IsE w' p m (.slice none 0 0) S) (hp : w.heap.size ≤ p) (hm : w.heap.size ≤ m) (hb : Below w.heap.size w w') (d : IsD w2 q (.slice none 0 0) (.slice none 0 0) (.slice none 0 0) S 0) (hq : w'.heap.size ≤ q) (hb2 : Below w'.heap.size w' w2) : Tw w w2 p m q S S [] := by
  have l1 := h.inh p (by simp)
  have l2 := h.inh m (by simp)
  refine ⟨_, _, _, _, 0, h.next hb2, d, ?_, ?_, by simp, Below.trans hb (hb2.mono hb.size)⟩
  · intro k hk
    simp [Value.ownBlock] at hk ⊢
    rcases hk with rfl | rfl
    · exact ⟨hp, by omega⟩
    · exact ⟨hm, by omega⟩
  · intro k hk
    simp [Value.ownBlock] at hk ⊢
    have := hb.size
    omega
#print axioms Tw.noFields
end Go.Proofs.Ytnbdnmfnmnboiaa
