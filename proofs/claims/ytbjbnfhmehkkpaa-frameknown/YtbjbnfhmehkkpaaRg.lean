/-
  The walk of Read.
-/
import Derived.Test.YtbjbnfhmehkkpaaRe
namespace Go.Proofs.Ytbjbnfhmehkkpaa
open Go.RowKit

theorem cutAt_oct (c : Int) (zs : List Int) (p : List Int × List Int) (ho : Oct zs) (h : cutAt c zs = some p) : Oct p.1 ∧ Oct p.2 := by
  have e := cutAt_eq c zs p h
  rw [e] at ho
  exact ⟨fun n hn => ho n (by simp [hn]), fun n hn => ho n (by simp [hn])⟩
theorem cutAt_len (c : Int) (zs : List Int) (p : List Int × List Int) (h : cutAt c zs = some p) : p.1.length + p.2.length + 1 = zs.length := by
  have e := congrArg List.length (cutAt_eq c zs p h)
  simp at e
  omega

set_option maxHeartbeats 4000000 in
set_option maxRecDepth 100000 in
theorem read_any (zs : List Int) (w : World) (ho : Oct zs) (hl : zs.length ≤ 1000000) :
    Calls Try.prog 19 #[.string (strOfNums zs)] w fun e w' => e = .returned (rdR zs).tup ∧ Below w.heap.size w w' := by
  have hcut := fun w => cut_any 35 zs w ho (by decide) hl
  have z0 : (w.alloc (.cells (frC 0 0 0 0 0 0 0 0 0 0 false) 26)).heap[w.heap.size]? = some (.cells (frC 0 0 0 0 0 0 0 0 0 0 false) 26 (0, 0)) := heap_new _ _
  have BA : Below w.heap.size w (w.alloc (.cells (frC 0 0 0 0 0 0 0 0 0 0 false) 26)) := Below.al (Below.refl _ _) _
  cases hq : cutAt 35 zs with
  | none =>
    have R : rdR zs = noFr 30 := by unfold rdR; rw [hq]
    rw [R]
    rw [hq] at hcut
    dsimp only at hcut
    have hnu := fun w => number_any zs 3 w ho (by decide)
    clear hq R ho hl
    generalize strOfNums zs = s at *
    generalize nuV zs 3 = a at *
    generalize nuB zs 3 = b at *
    go_enter Try.func19, Try.ntmps19
    go_wp2_with fail
    refine (hcut _).mono ?_
    rintro e w1 ⟨rfl, hb1⟩
    have hg : w1.heap[w.heap.size]? = some (.cells (frC 0 0 0 0 0 0 0 0 0 0 false) 26 (0, 0)) := (hb1.block _ (by simp)).trans z0
    have B1 : Below w.heap.size w w1 := Below.andThen BA hb1
    clear hb1 z0 BA hcut
    go_wp2_with fail
    refine (hnu _).mono ?_
    rintro e w1 ⟨rfl, rfl⟩
    go_wp2_with (refine wpList_store_row rfl 26 _ _ rfl w.heap.size (frC 0 0 0 0 0 0 0 0 0 0 false) rfl rfl 26 _ hg infoF rfl (frC_one _ _ _ _ _ _ _ _ _ _ _) ?_)
    have hc := fun j => cell_of_row (w1.setRow w.heap.size (frC 0 0 0 0 0 0 0 0 0 0 false)) w.heap.size j _ _ _ (setRow_heap _ _ _ _ _ _ hg)
    refine bodyPost_ret (v := FrR.tup (noFr 30)) ?_ rfl ⟨rfl, below_setRow B1 (Nat.le_refl _) _⟩
    simp [results, Try.results19, go_sem, hc, noFr]
  | some p =>
    obtain ⟨o1, o2⟩ := cutAt_oct 35 zs p ho hq
    have hlen := cutAt_len 35 zs p hq
    have hnu := fun w => number_any p.1 3 w o1 (by decide)
    have hbd := nuV_bd3 p.1
    have htl := fun w => readTail_any (nuV p.1 3) p.2 w o2 (by omega)
    have R : rdR zs = if nuB p.1 3 then (if (tailR (nuV p.1 3) p.2).c = 0 then tailR (nuV p.1 3) p.2 else noFr 30) else noFr 30 := by unfold rdR; rw [hq]
    rw [hq] at hcut
    dsimp only at hcut
    clear hq ho hl o1 o2 hlen
    rw [R]
    clear R
    generalize strOfNums zs = s at *
    generalize strOfNums p.1 = s1 at *
    generalize strOfNums p.2 = s2 at *
    cases hb : nuB p.1 3 with
    | false =>
      rw [hb] at hnu
      simp only [Bool.false_eq_true, if_false]
      clear hb htl
      generalize nuV p.1 3 = a at *
      go_enter Try.func19, Try.ntmps19
      go_wp2_with fail
      refine (hcut _).mono ?_
      rintro e w1 ⟨rfl, hb1⟩
      have hg : w1.heap[w.heap.size]? = some (.cells (frC 0 0 0 0 0 0 0 0 0 0 false) 26 (0, 0)) := (hb1.block _ (by simp)).trans z0
      have B1 : Below w.heap.size w w1 := Below.andThen BA hb1
      clear hb1 z0 BA hcut
      go_wp2_with fail
      refine (hnu _).mono ?_
      rintro e w1 ⟨rfl, rfl⟩
      go_wp2_with (refine wpList_store_row rfl 26 _ _ rfl w.heap.size (frC 0 0 0 0 0 0 0 0 0 0 false) rfl rfl 26 _ hg infoF rfl (frC_one _ _ _ _ _ _ _ _ _ _ _) ?_)
      have hc := fun j => cell_of_row (w1.setRow w.heap.size (frC 0 0 0 0 0 0 0 0 0 0 false)) w.heap.size j _ _ _ (setRow_heap _ _ _ _ _ _ hg)
      refine bodyPost_ret (v := FrR.tup (noFr 30)) ?_ rfl ⟨rfl, below_setRow B1 (Nat.le_refl _) _⟩
      simp [results, Try.results19, go_sem, hc, noFr]
    | true =>
      rw [hb] at hnu
      simp only [if_true]
      clear hb
      obtain ⟨q, HQ⟩ : ∃ q, Hid (tailR (nuV p.1 3) p.2 = q) := ⟨_, rfl⟩
      rw [HQ.out] at htl ⊢
      clear HQ
      generalize nuV p.1 3 = a at *
      obtain ⟨i, m, d0, d1, d2, d3, d4, d5, d6, d7, r, c⟩ := q
      dsimp only [FrR.tup] at htl ⊢
      by_cases hc0 : c = 0
      · rw [if_pos hc0]
        subst hc0
        go_enter Try.func19, Try.ntmps19
        go_wp2_with fail
        refine (hcut _).mono ?_
        rintro e w1 ⟨rfl, hb1⟩
        have hg : w1.heap[w.heap.size]? = some (.cells (frC 0 0 0 0 0 0 0 0 0 0 false) 26 (0, 0)) := (hb1.block _ (by simp)).trans z0
        have B1 : Below w.heap.size w w1 := Below.andThen BA hb1
        clear hb1 z0 BA hcut
        go_wp2_with fail
        refine (hnu _).mono ?_
        rintro e w1 ⟨rfl, rfl⟩
        clear hnu
        go_wp2_with fail
        refine (htl _).mono ?_
        rintro e w2 ⟨rfl, hb2⟩
        have hs1 : w.heap.size < w1.heap.size := (Array.getElem?_eq_some_iff.1 hg).1
        have hs2 : w.heap.size < w2.heap.size := Nat.lt_of_lt_of_le hs1 hb2.size
        have hg2 : w2.heap[w.heap.size]? = some (.cells (frC 0 0 0 0 0 0 0 0 0 0 false) 26 (0, 0)) := (hb2.block _ hs1).trans hg
        have B2 : Below w.heap.size w w2 := Below.andThen B1 hb2
        have hg3 : (w2.alloc (.cells (frC i m d0 d1 d2 d3 d4 d5 d6 d7 r) 26)).heap[w.heap.size]? = some (.cells (frC 0 0 0 0 0 0 0 0 0 0 false) 26 (0, 0)) := (heap_alloc_old w2 _ hs2).trans hg2
        clear hb2 hg B1 htl
        go_wp2_with (refine wpList_store_row rfl 26 _ _ rfl w.heap.size (frC i m d0 d1 d2 d3 d4 d5 d6 d7 r) rfl rfl 26 _ hg3 infoF rfl (frC_one _ _ _ _ _ _ _ _ _ _ _) ?_)
        have hc := fun j => cell_of_row ((w2.alloc (.cells (frC i m d0 d1 d2 d3 d4 d5 d6 d7 r) 26)).setRow w.heap.size (frC i m d0 d1 d2 d3 d4 d5 d6 d7 r)) w.heap.size j _ _ _ (setRow_heap _ _ _ _ _ _ hg3)
        refine bodyPost_ret (v := FrR.tup (⟨i, m, d0, d1, d2, d3, d4, d5, d6, d7, r, 0⟩)) ?_ rfl ⟨rfl, below_setRow (Below.al B2 _) (Nat.le_refl _) _⟩
        simp [results, Try.results19, go_sem, hc]
      · rw [if_neg hc0]
        have hcb : (c == 0) = false := by simp [hc0]
        clear hc0
        go_enter Try.func19, Try.ntmps19
        go_wp2_with fail
        refine (hcut _).mono ?_
        rintro e w1 ⟨rfl, hb1⟩
        have hg : w1.heap[w.heap.size]? = some (.cells (frC 0 0 0 0 0 0 0 0 0 0 false) 26 (0, 0)) := (hb1.block _ (by simp)).trans z0
        have B1 : Below w.heap.size w w1 := Below.andThen BA hb1
        clear hb1 z0 BA hcut
        go_wp2_with fail
        refine (hnu _).mono ?_
        rintro e w1 ⟨rfl, rfl⟩
        clear hnu
        go_wp2_with fail
        refine (htl _).mono ?_
        rintro e w2 ⟨rfl, hb2⟩
        have hs1 : w.heap.size < w1.heap.size := (Array.getElem?_eq_some_iff.1 hg).1
        have hs2 : w.heap.size < w2.heap.size := Nat.lt_of_lt_of_le hs1 hb2.size
        have hg2 : w2.heap[w.heap.size]? = some (.cells (frC 0 0 0 0 0 0 0 0 0 0 false) 26 (0, 0)) := (hb2.block _ hs1).trans hg
        have B2 : Below w.heap.size w w2 := Below.andThen B1 hb2
        have hg3 : (w2.alloc (.cells (frC i m d0 d1 d2 d3 d4 d5 d6 d7 r) 26)).heap[w.heap.size]? = some (.cells (frC 0 0 0 0 0 0 0 0 0 0 false) 26 (0, 0)) := (heap_alloc_old w2 _ hs2).trans hg2
        clear hb2 hg B1 htl
        go_wp2_with (refine wpList_store_row rfl 26 _ _ rfl w.heap.size (frC 0 0 0 0 0 0 0 0 0 0 false) rfl rfl 26 _ hg3 infoF rfl (frC_one _ _ _ _ _ _ _ _ _ _ _) ?_)
        have hc := fun j => cell_of_row ((w2.alloc (.cells (frC i m d0 d1 d2 d3 d4 d5 d6 d7 r) 26)).setRow w.heap.size (frC 0 0 0 0 0 0 0 0 0 0 false)) w.heap.size j _ _ _ (setRow_heap _ _ _ _ _ _ hg3)
        refine bodyPost_ret (v := FrR.tup (noFr 30)) ?_ rfl ⟨rfl, below_setRow (Below.al B2 _) (Nat.le_refl _) _⟩
        simp [results, Try.results19, go_sem, hc, noFr]
#print axioms read_any
end Go.Proofs.Ytbjbnfhmehkkpaa
