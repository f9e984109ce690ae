/-
  The watch of the chapter's examples, step by step.
-/
import Derived.Test.YtjdfacjfpdfafaaIe
namespace Go.Proofs.Ytjdfacjfpdfafaa
open Go.RowKit

/-- Node 5 behind each beat. -/
abbrev nA : Nd := (fresh 20).beat 0 1
abbrev nB : Nd := nA.beat 127 4
abbrev nC : Nd := nB.beat 127 9
abbrev nD : Nd := nC.beat 5 12
abbrev nE : Nd := nD.beat 0 12
abbrev nG : Nd := { nE with g := true }
abbrev nH : Nd := nG.beat 5 50
/-- The first k - 1 nodes are watched, and node 5. -/
def SK (k : Nat) : List Nd := (List.range 128).map fun (j : Nat) => if 1 ≤ j ∧ j < k then fresh 9 else if j = 5 then nH else fresh 0
theorem SK_len (k : Nat) : (SK k).length = 128 := by simp [SK]
theorem SK_get {k j : Nat} (hj : j < 128) : (SK k)[j]? = some (if 1 ≤ j ∧ j < k then fresh 9 else if j = 5 then nH else fresh 0) := by
  unfold SK
  rw [List.getElem?_map, List.getElem?_range hj]
  rfl
theorem SK_one : one 5 nH = SK 1 := by
  refine List.ext_getElem? fun j => ?_
  by_cases hj : j < 128
  · rw [SK_get hj, if_neg (show ¬ (1 ≤ j ∧ j < 1) by omega)]
    by_cases h5 : j = 5
    · subst h5; rw [if_pos rfl]; exact one_at (by decide) _
    · rw [if_neg h5]; exact one_other _ hj h5
  · rw [List.getElem?_eq_none (by simp [one, noneS]; omega), List.getElem?_eq_none (by rw [SK_len]; omega)]
theorem SK_set {k : Nat} (h1 : 1 ≤ k) (hk : k < 128) : (SK k).set k (fresh 9) = SK (k + 1) := by
  refine List.ext_getElem? fun j => ?_
  by_cases hj : j < 128
  · rw [SK_get hj]
    by_cases h : j = k
    · subst h
      rw [List.getElem?_set_self (by rw [SK_len]; omega), if_pos (by omega)]
    · rw [List.getElem?_set_ne (Ne.symm h), SK_get hj]
      by_cases h2 : 1 ≤ j ∧ j < k
      · rw [if_pos h2, if_pos (show 1 ≤ j ∧ j < k + 1 by omega)]
      · rw [if_neg h2, if_neg (show ¬ (1 ≤ j ∧ j < k + 1) by omega)]
  · rw [List.getElem?_eq_none (by rw [List.length_set, SK_len]; omega), List.getElem?_eq_none (by rw [SK_len]; omega)]
theorem SK_setC : ∀ k : Fin 17, 1 ≤ k.val → setC (SK k.val) (k.val : Int) 9 = 0 := by decide +kernel
theorem SK_lim : setC (SK 17) 17 9 = 3 := by decide +kernel
/-- Node 3 is watched no more. -/
abbrev SL : List Nd := ((SK 17).set 17 (fresh 0)).set 3 (fresh 0)
theorem SL_setC : setC (SK 17) 17 0 = 0 ∧ setC ((SK 17).set 17 (fresh 0)) 3 0 = 0 ∧ setC SL 17 9 = 0 := by decide +kernel
theorem SM_setC : setC (SL.set 17 (fresh 9)) 0 9 = 2 ∧ setC (SL.set 17 (fresh 9)) 128 9 = 2 ∧ setC (SL.set 17 (fresh 9)) 1 (-1) = 2 := by decide +kernel
theorem heard_six (x : Nd) : heard (one 5 x) true 1798 50 = none := by
  rw [heard_at (x := fresh 0) (by decide) (one_other x (by decide) (by decide)), if_neg (by decide)]
theorem goneE : goneB nE 31 = false ∧ goneB nE 32 = true ∧ goneB nG 40 = false := by decide
theorem news_all : newsK (fresh 20) 0 = 1 ∧ newsK nA 127 = 2 ∧ newsK nB 127 = 0 ∧ newsK nC 5 = 2 ∧ newsK nD 0 = 3 ∧ newsK nG 5 = 1 := by decide
/-- A beat of node 5 is heard. -/
theorem hear_5 {w : World} {base p : Nat} {P : List (Option Nat)} {x : Nd} (h : IsW w base p P (one 5 x)) (hW : 0 < x.W) (s : Int) (hs : stB s = true) (now : Int) (ht : tmB now = true) : Calls Try.prog 20 #[pt p, frV 1797 1 s 0 0 0 0 0 0 0 false, .int .i64 now] w fun e w' => e = .returned (eoV (if newsK x s = 0 then none else some ⟨5, newsK x s, s⟩)) ∧ (∃ P', IsW w' base p P' (one 5 (x.beat s now))) ∧ Kt base w w' := by
  have h5 := stB_of hs
  have := hear_any h 1797 1 s 0 0 0 0 0 0 0 false now (by decide) (by omega)
  have hb : btB 1797 1 s 0 0 0 0 0 0 0 false = true := btB_beat (a := 5) (by decide) hs
  have e1 := hearE_one (k := 5) (by decide) x hW ht s
  have e2 := hearL_one (k := 5) (by decide) x hW ht s
  rw [hb] at this
  rw [show (1797 : Int) = 1792 + ((5 : Nat) : Int) from rfl, e1, e2] at this
  exact this
#print axioms hear_5
#print axioms SM_setC
#print axioms SK_setC
end Go.Proofs.Ytjdfacjfpdfafaa
