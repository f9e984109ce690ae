/-
  Plain facts, of no program: the kinds and sizes of the types of values, and numbers out of bytes.
-/
import Derived.WalkKit
namespace Go.Proofs.YtajllkkbgpijiaaGreatDoor.Ty.Pl

/-- What kindOf tells of a type: its kind. -/
def kindN (t : Int) : Int :=
  if t = 1 then 1 else if t = 2 then 2 else if t = 3 then 2 else if t = 16 then 2 else if t = 4 then 2 else if t = 21 then 2
  else if t = 5 then 3 else if t = 6 then 3 else if t = 22 then 3 else if t = 7 then 3 else if t = 27 then 3
  else if t = 8 then 4 else if t = 17 then 4 else if t = 12 then 5 else if t = 13 then 5 else if t = 9 then 6 else if t = 10 then 7 else if t = 15 then 7 else 0

/-- Its size; 0: it has none. -/
def sizeN (t : Int) : Int :=
  if t = 1 then 1 else if t = 2 then 1 else if t = 3 then 2 else if t = 16 then 3 else if t = 4 then 4 else if t = 21 then 8
  else if t = 5 then 1 else if t = 6 then 2 else if t = 22 then 3 else if t = 7 then 4 else if t = 27 then 8
  else if t = 8 then 4 else if t = 17 then 8 else if t = 12 then 6 else if t = 13 then 6 else 0

/-- What the document's Kind tells: a letter. -/
def letN (t : Int) : Int :=
  if kindN t = 1 then 98 else if kindN t = 2 then 105 else if kindN t = 3 then 117 else if kindN t = 4 then 102 else if kindN t = 5 then 116 else if kindN t = 6 then 115 else if kindN t = 7 then 115 else 0

/-- Each type by its number, or none. -/
theorem type_cases (t : Int) : t = 1 ∨ t = 2 ∨ t = 3 ∨ t = 16 ∨ t = 4 ∨ t = 21 ∨ t = 5 ∨ t = 6 ∨ t = 22 ∨ t = 7 ∨ t = 27 ∨ t = 8 ∨ t = 17 ∨ t = 12 ∨ t = 13 ∨ t = 9 ∨ t = 10 ∨ t = 15 ∨ (kindN t = 0 ∧ sizeN t = 0) := by
  by_cases h1 : t = 1; · exact .inl h1
  by_cases h2 : t = 2; · omega
  by_cases h3 : t = 3; · omega
  by_cases h4 : t = 16; · omega
  by_cases h5 : t = 4; · omega
  by_cases h6 : t = 21; · omega
  by_cases h7 : t = 5; · omega
  by_cases h8 : t = 6; · omega
  by_cases h9 : t = 22; · omega
  by_cases h10 : t = 7; · omega
  by_cases h11 : t = 27; · omega
  by_cases h12 : t = 8; · omega
  by_cases h13 : t = 17; · omega
  by_cases h14 : t = 12; · omega
  by_cases h15 : t = 13; · omega
  by_cases h16 : t = 9; · omega
  by_cases h17 : t = 10; · omega
  by_cases h18 : t = 15; · omega
  have e1 : kindN t = 0 := by simp [kindN, *]
  have e2 : sizeN t = 0 := by simp [sizeN, *]
  omega

/-- What holds of the kind and the size of each type. -/
def facts (k s : Int) : Bool :=
  0 ≤ s && s ≤ 8 && 0 ≤ k && k ≤ 7 && (k != 0 || s == 0) && (k != 1 || s == 1) && (k != 5 || s == 6) && (k != 6 || s == 0) && (k != 7 || s == 0) && (k != 4 || s == 4 || s == 8) && (k == 0 || 6 ≤ k || 1 ≤ s)

theorem facts_all (t : Int) : facts (kindN t) (sizeN t) = true := by
  rcases type_cases t with rfl | rfl | rfl | rfl | rfl | rfl | rfl | rfl | rfl | rfl | rfl | rfl | rfl | rfl | rfl | rfl | rfl | rfl | ⟨h, h'⟩
  all_goals first | decide | (rw [h, h']; decide)

theorem kind_size (t : Int) : (kindN t = 0 → sizeN t = 0) ∧ (kindN t = 1 → sizeN t = 1) ∧ (kindN t = 5 → sizeN t = 6) ∧ (kindN t = 6 → sizeN t = 0) ∧ (kindN t = 7 → sizeN t = 0) ∧
    (kindN t = 4 → sizeN t = 4 ∨ sizeN t = 8) ∧ (1 ≤ kindN t → kindN t ≤ 5 → 1 ≤ sizeN t) := by
  have h := facts_all t
  simp [facts] at h
  omega
theorem size_bd (t : Int) : 0 ≤ sizeN t ∧ sizeN t ≤ 8 := by
  have h := facts_all t
  simp [facts] at h
  omega
theorem kind_bd (t : Int) : 0 ≤ kindN t ∧ kindN t ≤ 7 := by
  have h := facts_all t
  simp [facts] at h
  omega
theorem let_right (t : Int) : (letN t != 0) = (kindN t != 0) := by
  have h := kind_bd t
  unfold letN
  generalize kindN t = k at *
  repeat' split
  all_goals simp_all
  omega
end Go.Proofs.YtajllkkbgpijiaaGreatDoor.Ty.Pl
