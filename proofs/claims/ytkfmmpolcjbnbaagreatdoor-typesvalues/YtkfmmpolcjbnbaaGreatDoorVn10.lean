/-
  What the document's value tells, and what of it is no more than 4096 bytes: plain facts.
-/
import Derived.Test.YtkfmmpolcjbnbaaGreatDoorVn5
import Derived.Test.YtkfmmpolcjbnbaaGreatDoorVb
namespace Go.Proofs.YtkfmmpolcjbnbaaGreatDoor
open Pl Go.RowKit

/-- Digits, pair by pair, any number of them. -/
def octW (l : List UInt8) : Option (List Int) :=
  if l.length % 2 = 0 ∧ (∀ i, i < l.length / 2 → (pr l i).isSome = true) then some ((List.range (l.length / 2)).map fun i => (((pr l i).getD 0 : Nat) : Int)) else none
/-- A text that is bare or in quotes, of any length. -/
def txtW (l : List UInt8) : Option (List Int) := if l.head? = some 34 then uqV l else some (l.map fun c => (c.toNat : Int))
/-- What the document's value tells. -/
def valW (t : Int) (l : List UInt8) : Option (List Int) :=
  if kindN t = 1 then truV l
  else if kindN t = 2 ∨ kindN t = 3 then intV t l
  else if kindN t = 4 then (if t = 17 then (flt64V l).map fun n : Nat => bytesL (n : Int) 8 else (flt32V l).map fun n : Nat => bytesL (n : Int) 4)
  else if kindN t = 5 then momV l
  else if kindN t = 6 then txtW l
  else octW l
/-- No more than 4096 bytes. -/
def cutTo (o : Option (List Int)) : Option (List Int) := o.bind fun zs => if zs.length ≤ 4096 then some zs else none
theorem cutTo_small (o : Option (List Int)) (h : ∀ zs, o = some zs → zs.length ≤ 4096) : cutTo o = o := by
  cases o with
  | none => rfl
  | some zs => show (if zs.length ≤ 4096 then some zs else none) = some zs; rw [if_pos (h zs rfl)]
theorem oct_cut (l : List UInt8) : octV l = cutTo (octW l) := by
  unfold octV octW
  by_cases h : l.length % 2 = 0 ∧ (∀ i, i < l.length / 2 → (pr l i).isSome = true)
  · rw [if_pos h]
    show _ = (if ((List.range (l.length / 2)).map fun i => (((pr l i).getD 0 : Nat) : Int)).length ≤ 4096 then _ else _)
    rw [List.length_map, List.length_range]
    by_cases h2 : l.length ≤ 8192
    · rw [if_pos ⟨⟨h.1, h2⟩, h.2⟩, if_pos (by omega)]
    · rw [if_neg (fun x => h2 x.1.2), if_neg (by have := h.1; omega)]
  · rw [if_neg h, if_neg (fun x => h ⟨x.1.1, x.2⟩)]; rfl
theorem suffix_one (r : List UInt8) (c : UInt8) : Lib.hasSuffix (r ++ [c]) [34] = (c == 34) := by
  unfold Lib.hasSuffix
  rw [Bool.eq_iff_iff, List.isSuffixOf_iff_suffix, beq_iff_eq]
  constructor
  · rintro ⟨q, hq⟩
    have := congrArg List.getLast? hq
    simpa using this.symm
  · rintro rfl; exact ⟨r, rfl⟩
theorem txt_cut (l : List UInt8) : txtV l = cutTo (txtW l) := by
  match l with
  | [] => rfl
  | c :: m =>
    by_cases hc : c = 34
    · subst hc
      have h1 : Lib.hasPrefix (34 :: m) [34] = true := by simp [Lib.hasPrefix, List.isPrefixOf]
      have h2 : Lib.trimPrefix (34 :: m) [34] = m := by unfold Lib.trimPrefix; rw [if_pos h1]; rfl
      have e1 : txtV (34 :: m) = (if Lib.hasSuffix m [34] = true then qL 4096 (Lib.trimSuffix m [34]) else none) := by unfold txtV; rw [if_pos h1, h2]
      have e2 : txtW (34 :: m) = uqV (34 :: m) := by unfold txtW; rw [if_pos (by rfl)]
      rw [e1, e2]
      rcases List.eq_nil_or_concat m with rfl | ⟨r, d, rfl⟩
      · rw [if_neg (by decide)]
        unfold uqV
        rw [if_neg (by rintro ⟨h, _⟩; simp at h)]
        rfl
      · rw [List.concat_eq_append, suffix_one]
        unfold uqV
        by_cases hd : d = 34
        · subst hd
          have h3 : Lib.trimSuffix (r ++ [34]) [34] = r := by
            unfold Lib.trimSuffix
            rw [suffix_one, if_pos (by rfl)]
            simp
          have h4 : inner (34 :: (r ++ [34])) = r := by unfold inner; simp
          have h5 : 2 ≤ (34 :: (r ++ [34]) : List UInt8).length ∧ (34 :: (r ++ [34]) : List UInt8).getLast? = some 34 := ⟨by simp, by rw [← List.cons_append, List.getLast?_append]; rfl⟩
          rw [if_pos (by rfl), if_pos h5, h3, h4, qL_cut 4096 r r.length (Nat.le_refl _)]
          rfl
        · have h5 : ¬ (2 ≤ (34 :: (r ++ [d]) : List UInt8).length ∧ (34 :: (r ++ [d]) : List UInt8).getLast? = some 34) := by
            rintro ⟨_, h⟩
            rw [← List.cons_append, List.getLast?_append] at h
            exact hd (by simpa using h)
          rw [if_neg (by simpa using hd), if_neg h5]
          rfl
    · have h1 : Lib.hasPrefix (c :: m) [34] = false := by
        simp [Lib.hasPrefix, List.isPrefixOf]
        exact fun h => hc h.symm
      have e1 : txtV (c :: m) = (if (c :: m).length ≤ 4096 then some ((c :: m).map fun c => (c.toNat : Int)) else none) := by unfold txtV; rw [if_neg (by rw [h1]; decide)]
      have e2 : txtW (c :: m) = some ((c :: m).map fun c => (c.toNat : Int)) := by unfold txtW; rw [if_neg (fun h => hc (by simpa using h))]
      rw [e1, e2]
      show _ = (if ((c :: m).map fun c => (c.toNat : Int)).length ≤ 4096 then _ else _)
      rw [List.length_map]
theorem val_cut (t : Int) (l : List UInt8) (hk : kindN t ≠ 0) : valN t l = cutTo (valW t l) := by
  by_cases h6 : kindN t = 6
  · unfold valN valW
    simp only [h6]
    exact txt_cut l
  by_cases h7 : kindN t = 7
  · unfold valN valW
    simp only [h7]
    exact oct_cut l
  have e : valW t l = valN t l := by
    have := kind_bd t
    unfold valN valW
    by_cases k1 : kindN t = 1
    · rw [if_pos k1, if_pos k1]
    rw [if_neg k1, if_neg k1]
    by_cases k2 : kindN t = 2 ∨ kindN t = 3
    · rw [if_pos k2, if_pos k2]
    rw [if_neg k2, if_neg k2]
    by_cases k4 : kindN t = 4
    · rw [if_pos k4, if_pos k4]
      split
      · cases flt64V l <;> rfl
      · cases flt32V l <;> rfl
    rw [if_neg k4, if_neg k4, if_pos (by omega), if_pos (by omega)]
  rw [e, cutTo_small]
  exact fun zs hz => (val_ok t l zs hk hz).2.2
#print axioms val_cut
end Go.Proofs.YtkfmmpolcjbnbaaGreatDoor
