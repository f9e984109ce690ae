/-
  The order of what waits, and heaps of it: plain facts.
-/
import Derived.Test.YtndlpjfofjikeaaBh4
namespace Go.Proofs.Ytndlpjfofjikeaa
open Go.RowKit

theorem ahead_iff (x y : Sn) : aheadB x y = true ↔ x.i < y.i ∨ (x.i = y.i ∧ ((x.r = false ∧ y.r = true) ∨ (x.r = y.r ∧ x.nm < y.nm))) := by
  unfold aheadB befB
  obtain ⟨_, i, _, _, _, _, _, _, _, _, _, r, m⟩ := x
  obtain ⟨_, j, _, _, _, _, _, _, _, _, _, s, k⟩ := y
  dsimp only
  by_cases e : i = j
  · subst e
    cases r <;> cases s <;> simp
  · have e' : ¬ j = i := fun h => e h.symm
    cases r <;> cases s <;> simp [e, e'] <;> omega
/-- No later than another. -/
def le (x y : Sn) : Prop := aheadB y x = false
theorem le_iff (x y : Sn) : le x y ↔ ¬ (y.i < x.i ∨ (y.i = x.i ∧ ((y.r = false ∧ x.r = true) ∨ (y.r = x.r ∧ y.nm < x.nm)))) := by
  unfold le
  rw [← ahead_iff]
  simp
theorem le_refl (x : Sn) : le x x := by rw [le_iff]; cases x.r <;> simp
theorem le_trans {x y z : Sn} (h : le x y) (k : le y z) : le x z := by
  rw [le_iff] at *
  cases hx : x.r <;> cases hy : y.r <;> cases hz : z.r <;> simp [hx, hy, hz] at * <;> omega
theorem le_total (x y : Sn) : le x y ∨ le y x := by
  rw [le_iff, le_iff]
  cases hx : x.r <;> cases hy : y.r <;> simp <;> omega
theorem le_of_ahead {x y : Sn} (h : aheadB x y = true) : le x y := by
  rcases le_total x y with k | k
  · exact k
  · unfold le at k; rw [h] at k; cases k

instance : Inhabited Sn := ⟨⟨0, 0, 0, 0, 0, 0, 0, 0, 0, 0, 0, false, 0⟩⟩
/-- The one at a place. -/
def at_ (l : List Sn) (k : Nat) : Sn := l.getD k default
theorem at_some (l : List Sn) (k : Nat) (h : k < l.length) : l[k]? = some (at_ l k) := by
  unfold at_
  rw [List.getD_eq_getElem?_getD, List.getElem?_eq_getElem h]
  rfl
/-- Two of them, each at the other's place. -/
def swp (l : List Sn) (i j : Nat) : List Sn := (l.set i (at_ l j)).set j (at_ l i)
theorem swp_len (l : List Sn) (i j : Nat) : (swp l i j).length = l.length := by unfold swp; rw [List.length_set, List.length_set]
theorem swp_at (l : List Sn) (i j k : Nat) (hi : i < l.length) (hj : j < l.length) : at_ (swp l i j) k = if k = j then at_ l i else if k = i then at_ l j else at_ l k := by
  unfold swp
  unfold at_
  simp only [List.getD_eq_getElem?_getD, List.getElem?_set, List.length_set]
  by_cases h1 : j = k
  · subst h1
    simp [hj]
  · by_cases h2 : i = k
    · subst h2
      have : ¬ i = j := fun e => h1 e.symm
      simp [h1, hi, this]
    · have a : ¬ k = j := fun e => h1 e.symm
      have b : ¬ k = i := fun e => h2 e.symm
      simp [h1, h2, a, b]
theorem swp_perm (l : List Sn) (i j : Nat) (hi : i < l.length) (hj : j < l.length) : (swp l i j).Perm l := by
  unfold swp at_
  rw [List.getD_eq_getElem?_getD, List.getD_eq_getElem?_getD, List.getElem?_eq_getElem hi, List.getElem?_eq_getElem hj]
  exact List.set_set_perm hi hj
/-- A heap, up to a place. -/
def Heap (l : List Sn) (n : Nat) : Prop := ∀ k, 0 < k → k < n → le (at_ l ((k - 1) / 2)) (at_ l k)
theorem Heap.min {l : List Sn} {n : Nat} (h : Heap l n) : ∀ k, k < n → le (at_ l 0) (at_ l k) := by
  intro k
  induction k using Nat.strongRecOn with
  | ind k ih =>
    intro hk
    by_cases h0 : k = 0
    · subst h0; exact le_refl _
    · exact le_trans (ih ((k - 1) / 2) (by omega) (by omega)) (h k (by omega) hk)
/-- A heap but for one that may be less than the one above it. -/
structure UpOk (l : List Sn) (n j : Nat) : Prop where
  other : ∀ k, 0 < k → k < n → k ≠ j → le (at_ l ((k - 1) / 2)) (at_ l k)
  child : ∀ k, 0 < k → k < n → (k - 1) / 2 = j → 0 < j → le (at_ l ((j - 1) / 2)) (at_ l k)
theorem UpOk.zero {l : List Sn} {n : Nat} (h : UpOk l n 0) : Heap l n := fun k h0 hk => h.other k h0 hk (by omega)
theorem UpOk.stop {l : List Sn} {n j : Nat} (h : UpOk l n j) (hs : le (at_ l ((j - 1) / 2)) (at_ l j)) : Heap l n := fun k h0 hk => by
  by_cases e : k = j
  · subst e; exact hs
  · exact h.other k h0 hk e
theorem UpOk.go {l : List Sn} {j : Nat} (h : UpOk l l.length j) (h0 : 0 < j) (hj : j < l.length) (ha : aheadB (at_ l j) (at_ l ((j - 1) / 2)) = true) : UpOk (swp l ((j - 1) / 2) j) l.length ((j - 1) / 2) := by
  have hi : (j - 1) / 2 < l.length := by omega
  have hle := le_of_ahead ha
  have S := fun k => swp_at l ((j - 1) / 2) j k hi hj
  have hij : (j - 1) / 2 < j := by omega
  generalize hI : (j - 1) / 2 = i at *
  constructor
  · intro k k0 kn ki
    rw [S, S]
    by_cases e : k = j
    · subst e
      rw [hI, if_neg (by omega), if_pos rfl, if_pos rfl]
      exact hle
    · rw [if_neg e, if_neg ki]
      by_cases e2 : (k - 1) / 2 = j
      · rw [if_pos e2]
        have := h.child k k0 kn e2 h0
        rw [hI] at this
        exact this
      · rw [if_neg e2]
        by_cases e3 : (k - 1) / 2 = i
        · rw [if_pos e3]
          have := h.other k k0 kn e
          rw [e3] at this
          exact le_trans hle this
        · rw [if_neg e3]
          exact h.other k k0 kn e
  · intro k k0 kn ki i0
    rw [S, S]
    have q := h.other i i0 (by omega) (by omega)
    rw [if_neg (by omega), if_neg (by omega)]
    by_cases e : k = j
    · rw [if_pos e]; exact q
    · rw [if_neg e, if_neg (by omega)]
      have := h.other k k0 kn e
      rw [ki] at this
      exact le_trans q this
#print axioms UpOk.go
end Go.Proofs.Ytndlpjfofjikeaa
