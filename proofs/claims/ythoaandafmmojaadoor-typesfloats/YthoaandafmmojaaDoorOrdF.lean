/-
  Plain facts on the order of values, of no program: it is an order, and what Check tells within bounds.
-/
import Derived.Test.YthoaandafmmojaaDoorChkW
import Derived.Laws.BytesArg
import Derived.Lib.Bytes
namespace Go.Proofs.YthoaandafmmojaaDoor
open Pl Go.RowKit

theorem num_inj : ∀ (a b : List Int), Oct a → Oct b → a.length = b.length → num a = num b → a = b
  | [], [], _, _, _, _ => rfl
  | [], _ :: _, _, _, h, _ => by simp at h
  | _ :: _, [], _, _, h, _ => by simp at h
  | x :: a, y :: b, oa, ob, hl, hn => by
    have hx := oa x (by simp)
    have hy := ob y (by simp)
    simp only [num] at hn
    have e1 : x = y := by omega
    have e2 : num a = num b := by omega
    rw [e1, num_inj a b (fun n hn => oa n (by simp [hn])) (fun n hn => ob n (by simp [hn])) (by simpa using hl) e2]

theorem sgN_inj (len : Nat) (n m : Int) (h0 : 0 ≤ n) (h1 : n < 2 ^ (8 * len)) (k0 : 0 ≤ m) (k1 : m < 2 ^ (8 * len)) (h : sgN len n = sgN len m) : n = m := by
  unfold sgN at h
  generalize (2 : Int) ^ (8 * len) = P at *
  generalize (2 : Int) ^ (8 * len - 1) = R at *
  revert h
  repeat' split
  all_goals omega

theorem fkey_inj (bits : Nat) (n m : Int) (h0 : 0 ≤ n) (k0 : 0 ≤ m) (h : fkey bits n = fkey bits m) : n = m := by
  unfold fkey at h
  generalize (2 : Int) ^ (bits - 1) = R at *
  revert h
  repeat' split
  all_goals omega

theorem ordK_inj (t : Int) (a b : List Int) (oa : Oct a) (ob : Oct b) (hl : a.length = b.length) (h : ordK t a = ordK t b) : a = b := by
  have ba := num_bd a oa
  have bb := num_bd b ob
  refine num_inj a b oa ob hl ?_
  unfold ordK at h
  rw [hl] at h ba
  by_cases k2 : kindN t = 2
  · rw [if_pos k2, if_pos k2] at h
    exact sgN_inj _ _ _ ba.1 ba.2 bb.1 bb.2 h
  rw [if_neg k2, if_neg k2] at h
  by_cases k4 : kindN t = 4
  · rw [if_pos k4, if_pos k4] at h
    exact fkey_inj _ _ _ ba.1 bb.1 h
  rwa [if_neg k4, if_neg k4] at h

theorem compB_parts {t : Int} {a b : List Int} (h : compB t a b = true) : placeB t a = true ∧ placeB t b = true := by
  simpa [compB] using h
theorem compB_sym (t : Int) (a b : List Int) : compB t b a = compB t a b := by unfold compB; rw [Bool.and_comm]
theorem compR_of (t : Int) (a b : List Int) (h : compB t a b = true) : compR t a b = cmpN (ordK t a) (ordK t b) := by
  unfold compR; rw [if_pos (compB_parts h)]
theorem compR_none' (t : Int) (a b : List Int) (h : compB t a b = false) : compR t a b = 0 := by
  unfold compR; rw [if_neg (by intro hh; simp [compB, hh.1, hh.2] at h)]

theorem cmpN_neg (x y : Int) : cmpN y x = -cmpN x y := by
  unfold cmpN
  repeat' split
  all_goals omega
theorem compR_sym (t : Int) (a b : List Int) : compR t b a = -compR t a b := by
  by_cases h : compB t a b = true
  · rw [compR_of t a b h, compR_of t b a (by rw [compB_sym]; exact h), cmpN_neg]
  · have h' : compB t a b = false := by simpa using h
    rw [compR_none' t a b h', compR_none' t b a (by rw [compB_sym]; exact h')]; rfl

theorem cmpN_vals (x y : Int) : (x < y ∧ cmpN x y = -1) ∨ (x = y ∧ cmpN x y = 0) ∨ (y < x ∧ cmpN x y = 1) := by
  unfold cmpN
  repeat' split
  all_goals omega

theorem compR_vals (t : Int) (a b : List Int) (oa : Oct a) (ob : Oct b) (h : compB t a b = true) : (compR t a b = -1 ∧ a ≠ b) ∨ (compR t a b = 0 ∧ a = b) ∨ (compR t a b = 1 ∧ a ≠ b) := by
  have ⟨ha, hb⟩ := compB_parts h
  have l1 := (place_facts t a ha).2.2.2.2.2.2.1
  have l2 := (place_facts t b hb).2.2.2.2.2.2.1
  rw [compR_of t a b h]
  rcases cmpN_vals (ordK t a) (ordK t b) with ⟨h1, h2⟩ | ⟨h1, h2⟩ | ⟨h1, h2⟩
  · exact .inl ⟨h2, fun e => by rw [e] at h1; omega⟩
  · exact .inr (.inl ⟨h2, ordK_inj t a b oa ob (by omega) h1⟩)
  · exact .inr (.inr ⟨h2, fun e => by rw [e] at h1; omega⟩)

/-- Two steps of the order, put together. -/
theorem comp_trans (t : Int) (a b c : List Int) (h : compB t a b = true) (k : compB t b c = true) : compB t a c = true ∧
    (compR t a b ≤ 0 → compR t b c ≤ 0 → compR t a c ≤ 0) ∧ (compR t a b < 0 → compR t b c < 0 → compR t a c < 0) := by
  have hac : compB t a c = true := by simp [compB, (compB_parts h).1, (compB_parts k).2]
  rw [compR_of t a b h, compR_of t b c k, compR_of t a c hac]
  refine ⟨hac, ?_⟩
  have h1 := cmpN_vals (ordK t a) (ordK t b)
  have h2 := cmpN_vals (ordK t b) (ordK t c)
  have h3 := cmpN_vals (ordK t a) (ordK t c)
  omega

theorem byte_inj {x y : Int} (hx : 0 ≤ x ∧ x < 256) (hy : 0 ≤ y ∧ y < 256) (h : UInt8.ofNat x.toNat = UInt8.ofNat y.toNat) : x = y := by
  have := congrArg UInt8.toNat h
  simp at this
  omega
theorem strOfNums_inj (a b : List Int) (oa : Oct a) (ob : Oct b) (h : strOfNums a = strOfNums b) : a = b := by
  have h' := congrArg (fun s : ByteArray => s.data.toList) h
  simp only [strOfNums_data] at h'
  clear h
  induction a generalizing b with
  | nil => cases b with
    | nil => rfl
    | cons y b => simp at h'
  | cons x a ih => cases b with
    | nil => simp at h'
    | cons y b =>
      simp only [List.map_cons, List.cons.injEq] at h'
      rw [byte_inj (oa x (by simp)) (ob y (by simp)) h'.1, ih b (fun n hn => oa n (by simp [hn])) (fun n hn => ob n (by simp [hn])) h'.2]

theorem str_unlike (a b : List Int) (oa : Oct a) (ob : Oct b) (h : a ≠ b) : ((strOfNums a).toList == (strOfNums b).toList) = false := by
  rw [beq_eq_false_iff_ne]
  intro e
  rw [Lib.strOfNums_toList, Lib.strOfNums_toList] at e
  refine h (strOfNums_inj a b oa ob ?_)
  unfold strOfNums
  exact congrArg (fun l : List UInt8 => (⟨l.toArray⟩ : ByteArray)) e

/-- What Check tells of a value and bounds that all have places. -/
theorem chk_both (t : Int) (b lo hi : List Int) (hb : placeB t b = true) (hl : placeB t lo = true) (hh : placeB t hi = true) :
    chkN t b lo hi = (if 0 < compR t b hi then 101253169 else if compR t b lo < 0 then 101253170 else 0) ∧
    chkN t b [] hi = (if 0 < compR t b hi then 101253169 else 0) ∧ chkN t b lo [] = (if compR t b lo < 0 then 101253170 else 0) := by
  have c0 := (place_facts t b hb).1
  have pn : placeB t [] = false := by
    cases h : placeB t [] with
    | false => rfl
    | true => exact absurd (place_facts t [] h).2.2.2.2.2.2.2.1 (by simp)
  have cn := compR_none t b [] pn
  have f : ∀ l h, chkN t b l h = resN (placeB t h) (placeB t l) (placeB t b) (compR t b h) (compR t b l) := fun l h => by unfold chkN; rw [if_neg (by simp [c0])]
  rw [f, f, f, hb, hl, hh, pn, cn]
  unfold resN
  refine ⟨by rw [if_neg (by decide)], ?_, ?_⟩
  · rw [if_neg (by decide)]
    by_cases h : 0 < compR t b hi
    · rw [if_pos h, if_pos h]
    · rw [if_neg h, if_neg h]; rfl
  · rw [if_neg (by decide)]
    rfl
end Go.Proofs.YthoaandafmmojaaDoor
