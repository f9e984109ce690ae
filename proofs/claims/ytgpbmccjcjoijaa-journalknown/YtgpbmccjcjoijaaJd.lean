/-
  Words written and sectors erased, one behind the other, plainly.
-/
import Derived.Test.YtgpbmccjcjoijaaFk
import Derived.Test.YtgpbmccjcjoijaaJb
namespace Go.Proofs.Ytgpbmccjcjoijaa
open Go.RowKit

/-- Words, written one behind the other. -/
def regW (n first : Nat) : List Int → Nat → FS → Int × FS
  | b0 :: b1 :: b2 :: b3 :: rest, at_, s => if (s.write n ((first + at_ / 1024 : Nat) : Int) ((at_ % 1024 / 4 : Nat) : Int) b0 b1 b2 b3).1 = 0 then regW n first rest (at_ + 4) (s.write n ((first + at_ / 1024 : Nat) : Int) ((at_ % 1024 / 4 : Nat) : Int) b0 b1 b2 b3).2 else s.write n ((first + at_ / 1024 : Nat) : Int) ((at_ % 1024 / 4 : Nat) : Int) b0 b1 b2 b3
  | _, _, s => (0, s)
theorem regW_nil (n first at_ : Nat) (s : FS) : regW n first [] at_ s = (0, s) := rfl
theorem regW_cons (n first at_ : Nat) (s : FS) (b0 b1 b2 b3 : Int) (rest : List Int) {E : Int} {s' : FS} (h : s.write n ((first + at_ / 1024 : Nat) : Int) ((at_ % 1024 / 4 : Nat) : Int) b0 b1 b2 b3 = (E, s')) : regW n first (b0 :: b1 :: b2 :: b3 :: rest) at_ s = if E = 0 then regW n first rest (at_ + 4) s' else (E, s') := by
  rw [regW, h]
/-- Sectors, erased one behind the other. -/
def regE (n first : Nat) : Nat → Nat → FS → Int × FS
  | 0, _, s => (0, s)
  | m + 1, i, s => if (s.erase n ((first + i : Nat) : Int)).1 = 0 then regE n first m (i + 1) (s.erase n ((first + i : Nat) : Int)).2 else s.erase n ((first + i : Nat) : Int)
theorem regE_succ (n first m i : Nat) (s : FS) {E : Int} {s' : FS} (h : s.erase n ((first + i : Nat) : Int) = (E, s')) : regE n first (m + 1) i s = if E = 0 then regE n first m (i + 1) s' else (E, s') := by
  rw [regE, h]
/-- The numbers of a state are small: so many steps at most. -/
structure FS.Le (s : FS) (m : Nat) : Prop where
  st0 : 0 ≤ s.st
  st1 : s.st ≤ m
  lf0 : 0 ≤ s.lf
  lf1 : s.lf < 9223372036854775808
theorem FS.Le.ok {s : FS} {m : Nat} (h : s.Le m) (hm : m ≤ 1000000000) : s.Ok := ⟨h.st0, by have := h.st1; omega, h.lf0, h.lf1⟩
theorem FS.Le.more {s : FS} {m k : Nat} (h : s.Le m) (hm : m ≤ k) : s.Le k := ⟨h.st0, by have := h.st1; omega, h.lf0, h.lf1⟩
theorem FS.Le.step {s : FS} {m : Nat} (h : s.Le m) (cs : List Int) : (s.step cs).2.Le (m + 1) := by
  obtain ⟨h0, h1, h2, h3⟩ := h
  unfold FS.step
  split
  · exact ⟨h0, by show s.st ≤ _; omega, h2, h3⟩
  · rename_i hc
    refine ⟨by show 0 ≤ s.st + 1; omega, by show s.st + 1 ≤ _; omega, ?_, ?_⟩
    · show 0 ≤ if s.ar = true then s.lf - 1 else s.lf
      split
      · rename_i ha
        have : s.lf ≠ 0 := fun e => hc ⟨ha, e⟩
        omega
      · omega
    · show (if s.ar = true then s.lf - 1 else s.lf) < _
      split <;> omega
theorem FS.Le.write {s : FS} {m : Nat} (h : s.Le m) (n : Nat) (k d b0 b1 b2 b3 : Int) : (s.write n k d b0 b1 b2 b3).2.Le (m + 1) := by
  unfold FS.write
  split
  · exact h.more (by omega)
  · split
    · exact h.step _
    · exact h.more (by omega)
theorem FS.Le.erase {s : FS} {m : Nat} (h : s.Le m) (n : Nat) (k : Int) : (s.erase n k).2.Le (m + 1) := by
  unfold FS.erase
  split
  · exact h.more (by omega)
  · exact h.step _
theorem regW_le (n first : Nat) : ∀ (k : Nat) (b : List Int) (at_ : Nat) (s : FS) (m : Nat), b.length ≤ k → s.Le m → (regW n first b at_ s).2.Le (m + b.length) := by
  intro k
  induction k with
  | zero =>
    intro b at_ s m hb h
    have : b = [] := List.eq_nil_of_length_eq_zero (by omega)
    subst this
    exact h
  | succ k ih =>
    intro b at_ s m hb h
    match b, hb with
    | [], _ => exact h
    | [_], _ => exact h.more (by omega)
    | [_, _], _ => exact h.more (by omega)
    | [_, _, _], _ => exact h.more (by omega)
    | b0 :: b1 :: b2 :: b3 :: rest, hb =>
      cases hw : s.write n ((first + at_ / 1024 : Nat) : Int) ((at_ % 1024 / 4 : Nat) : Int) b0 b1 b2 b3 with
      | mk E s' =>
        have h1 := h.write n ((first + at_ / 1024 : Nat) : Int) ((at_ % 1024 / 4 : Nat) : Int) b0 b1 b2 b3
        rw [hw] at h1
        rw [regW_cons n first at_ s b0 b1 b2 b3 rest hw]
        split
        · exact (ih rest (at_ + 4) s' (m + 1) (by simp at hb; omega) h1).more (by simp; omega)
        · exact h1.more (by simp)
theorem regE_le (n first : Nat) : ∀ (k i : Nat) (s : FS) (m : Nat), s.Le m → (regE n first k i s).2.Le (m + k) := by
  intro k
  induction k with
  | zero => intro i s m h; exact h
  | succ k ih =>
    intro i s m h
    cases hw : s.erase n ((first + i : Nat) : Int) with
    | mk E s' =>
      have h1 := h.erase n ((first + i : Nat) : Int)
      rw [hw] at h1
      rw [regE_succ n first k i s hw]
      split
      · exact (ih (i + 1) s' (m + 1) h1).more (by omega)
      · exact h1.more (by omega)
#print axioms regW_le
#print axioms regE_le
end Go.Proofs.Ytgpbmccjcjoijaa
