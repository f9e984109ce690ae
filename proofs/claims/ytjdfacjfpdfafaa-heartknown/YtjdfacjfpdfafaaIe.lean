/-
  A watch of one node alone; what a beat's frame tells; both sides' calls on times that are times.
-/
import Derived.Test.YtjdfacjfpdfafaaIb
namespace Go.Proofs.Ytjdfacjfpdfafaa
open Go.RowKit

/-- A watch of one node alone. -/
def one (k : Nat) (x : Nd) : List Nd := noneS.set k x
theorem one_at {k : Nat} (hk : k < 128) (x : Nd) : (one k x)[k]? = some x := List.getElem?_set_self (by simp [noneS]; omega)
theorem one_other {k : Nat} (x : Nd) {j : Nat} (hj : j < 128) (h : j ≠ k) : (one k x)[j]? = some (fresh 0) := by
  unfold one
  rw [List.getElem?_set_ne (Ne.symm h), noneS_get hj]
theorem one_set (k : Nat) (x y : Nd) : (one k x).set k y = one k y := by unfold one; rw [List.set_set]
theorem one_tick (k : Nat) (x : Nd) (now : Int) : (one k x).map (·.tick now) = one k (x.tick now) := by
  unfold one noneS
  rw [List.map_set, List.map_replicate]
  have : (fresh 0).tick now = fresh 0 := by unfold Nd.tick; rw [if_neg (by simp [goneB_none])]
  rw [this]
theorem evK_one {k : Nat} (hk : k < 128) (x : Nd) (now : Int) : ∀ j, j ≤ 128 → evK now (one k x) j = if k < j ∧ goneB x now = true then [⟨(k : Int), 4, x.s⟩] else []
  | 0, _ => by simp [evK]
  | j + 1, hj => by
    have ih := evK_one hk x now j (by omega)
    by_cases h5 : j = k
    · subst h5
      rw [if_neg (by omega)] at ih
      cases hg : goneB x now with
      | true => rw [evK_yes (one_at hk x) hg, ih]; simp
      | false => rw [evK_no (one_at hk x) hg, ih]; simp
    · rw [evK_no (one_other x (by omega) h5) (goneB_none now), ih]
      have : (k < j) ↔ (k < j + 1) := by omega
      simp [this]
theorem dueK_one {k : Nat} (hk : k < 128) (x : Nd) (h : 0 < x.W ∧ x.on = true) : ∀ j, j ≤ 128 → dueK (one k x) j = if k < j then some (x.t + x.W) else none
  | 0, _ => by simp [dueK]
  | j + 1, hj => by
    have ih := dueK_one hk x h j (by omega)
    by_cases h5 : j = k
    · subst h5
      rw [if_neg (by omega)] at ih
      simp only [dueK, one_at hk x]
      rw [if_pos h, ih, if_pos (by omega)]
      rfl
    · simp only [dueK, one_other x (by omega : j < 128) h5]
      rw [if_neg (by simp [fresh]), ih]
      have : (k < j) ↔ (k < j + 1) := by omega
      simp [this]
theorem cntS_none : cntS noneS 128 = 0 := by
  unfold cntS noneS
  rw [List.take_of_length_le (by simp), List.countP_replicate]
  simp [fresh]
theorem setC_one {k : Nat} (hk : ndB (k : Int) = true) {W : Int} (hW : tmB W = true) (h0 : ¬ W = 0) : setC noneS (k : Int) W = 0 := by
  rw [setC_at hk hW h0 (x := fresh 0) (noneS_get (by have := ndB_of hk; omega)), if_neg]
  rintro ⟨_, h⟩
  rw [cntS_none] at h
  omega
theorem btB_beat {a s : Int} (ha : ndB a = true) (hs : stB s = true) : btB (1792 + a) 1 s 0 0 0 0 0 0 0 false = true := by
  unfold btB
  rw [show (1792 : Int) + a - 1792 = a from by omega, ha, hs, sameF_self]
  rfl
theorem heard_one {k : Nat} (hk : ndB (k : Int) = true) (x : Nd) (hW : 0 < x.W) {now : Int} (ht : tmB now = true) : heard (one k x) true (1792 + (k : Int)) now = some x := by
  have ek : (1792 + (k : Int) - 1792).toNat = k := by omega
  rw [heard_at (x := x) ht (by rw [ek]; exact one_at (by have := ndB_of hk; omega) x), if_pos hW]
theorem hearL_one {k : Nat} (hk : ndB (k : Int) = true) (x : Nd) (hW : 0 < x.W) {now : Int} (ht : tmB now = true) (s : Int) : hearL (one k x) true (1792 + (k : Int)) s now = one k (x.beat s now) := by
  have ek : (1792 + (k : Int) - 1792).toNat = k := by omega
  unfold hearL
  rw [heard_one hk x hW ht]
  dsimp only
  rw [ek, one_set]
theorem hearE_one {k : Nat} (hk : ndB (k : Int) = true) (x : Nd) (hW : 0 < x.W) {now : Int} (ht : tmB now = true) (s : Int) : hearE (one k x) true (1792 + (k : Int)) s now = if newsK x s = 0 then none else some ⟨(k : Int), newsK x s, s⟩ := by
  have ei : (1792 : Int) + (k : Int) - 1792 = (k : Int) := by omega
  unfold hearE
  rw [heard_one hk x hW ht, ei]
theorem stV_one {k : Nat} (hk : ndB (k : Int) = true) (x : Nd) : stV (one k x) (k : Int) = if 0 < x.W ∧ x.on = true then (x.s, true) else (0, false) := by
  unfold stV
  rw [show (k : Int).toNat = k from by omega, one_at (by have := ndB_of hk; omega) x]
  simp [hk]

/-- A Tick at which nothing is gone. -/
theorem tick_none {w : World} {base p k : Nat} {P : List (Option Nat)} {x : Nd} (h : IsW w base p P (one k x)) (hk : k < 128) (now : Int) (ht : tmB now = true) (hg : goneB x now = false) : Calls Try.prog 24 #[pt p, .int .i64 now] w fun e w' => ∃ a c, e = .returned (.slice a 0 c) ∧ IsW w' base p P (one k x) ∧ Kt base w w' := by
  refine (wtick_ok h now ht).mono ?_
  rintro e w' ⟨v, rfl, t⟩
  have ev := t.ev
  rw [evK_one hk _ _ _ (Nat.le_refl _), hg, if_neg (by simp)] at ev
  obtain ⟨a, c, rfl⟩ := ev.form
  have hs := t.st
  rw [one_tick] at hs
  have : x.tick now = x := by unfold Nd.tick; rw [if_neg (by simp [hg])]
  rw [this] at hs
  exact ⟨a, c, rfl, hs, t.k⟩
/-- A Tick at which it is. -/
theorem tick_gone {w : World} {base p k : Nat} {P : List (Option Nat)} {x : Nd} (h : IsW w base p P (one k x)) (hk : k < 128) (now : Int) (ht : tmB now = true) (hg : goneB x now = true) : Calls Try.prog 24 #[pt p, .int .i64 now] w fun e w' => ∃ g o c, e = .returned (.slice (some ⟨g, o, none⟩) 1 c) ∧ (w'.cell? ⟨g, o, none⟩ = some (.int .u8 (k : Int)) ∧ w'.cell? ⟨g, o + 1, none⟩ = some (.int .u8 4) ∧ w'.cell? ⟨g, o + 2, none⟩ = some (.int .u8 x.s)) ∧ IsW w' base p P (one k { x with g := true }) ∧ Kt base w w' := by
  refine (wtick_ok h now ht).mono ?_
  rintro e w' ⟨v, rfl, t⟩
  have ev := t.ev
  rw [evK_one hk _ _ _ (Nat.le_refl _), hg, if_pos ⟨hk, rfl⟩] at ev
  obtain ⟨g, o, c, rfl, hO⟩ := ev.pos (by simp)
  have hs := t.st
  rw [one_tick] at hs
  have : x.tick now = { x with g := true } := by unfold Nd.tick; rw [if_pos hg]
  rw [this] at hs
  exact ⟨g, o, c, rfl, ⟨by simpa using hO.cell 0 _ rfl, hO.cell 1 _ rfl, hO.cell 2 _ rfl⟩, hs, t.k⟩
/-- A beat of it is heard. -/
theorem hear_one {w : World} {base p k : Nat} {P : List (Option Nat)} {x : Nd} (h : IsW w base p P (one k x)) (hk : ndB (k : Int) = true) (hW : 0 < x.W) (now : Int) (ht : tmB now = true) : Calls Try.prog 20 #[pt p, beV (k : Int) 5, .int .i64 now] w fun e w' => e = .returned (eoV (if newsK x 5 = 0 then none else some ⟨(k : Int), newsK x 5, 5⟩)) ∧ (∃ P', IsW w' base p P' (one k (x.beat 5 now))) ∧ Kt base w w' := by
  have := hear_any h (1792 + (k : Int)) 1 5 0 0 0 0 0 0 0 false now (by have := ndB_of hk; omega) (by decide)
  rw [btB_beat hk (by decide), hearE_one hk x hW ht, hearL_one hk x hW ht] at this
  exact this
#print axioms tick_gone
#print axioms hear_one
end Go.Proofs.Ytjdfacjfpdfafaa
