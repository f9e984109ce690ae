/-
  The walks of readTail and Read.
-/
import Derived.Test.YtbjbnfhmehkkpaaRd
namespace Go.Proofs.Ytbjbnfhmehkkpaa
open Go.RowKit

/-- What Read tells. -/
def rdR (zs : List Int) : FrR :=
  match cutAt 35 zs with
  | some p => if nuB p.1 3 then (if (tailR (nuV p.1 3) p.2).c = 0 then tailR (nuV p.1 3) p.2 else noFr 30) else noFr 30
  | none => noFr 30

theorem nuV_bd1 (l : List Int) : 0 ≤ nuV l 1 ∧ nuV l 1 < 16 := by
  unfold nuV
  by_cases h : nuB l 1 = true
  · rw [if_pos h]
    simp [nuB] at h
    match l, h with
    | [x], h => have := valZ_bd x; simp [numV] at h ⊢; omega
  · rw [if_neg h]; omega
theorem nuV_bd3 (l : List Int) : 0 ≤ nuV l 3 ∧ nuV l 3 < 4096 := by
  unfold nuV
  by_cases h : nuB l 3 = true
  · rw [if_pos h]
    simp [nuB] at h
    match l, h with
    | [x, y, z], h =>
      have := valZ_bd x
      have := valZ_bd y
      have := valZ_bd z
      simp [numV] at h ⊢
      omega
  · rw [if_neg h]; omega
theorem tailR_R (id : Int) (l : List Int) : tailR id (82 :: l) = if nuB l 1 then askR id (nuV l 1) else noFr 30 := rfl
theorem tailR_some (id : Int) (t bs : List Int) (h : t.head? ≠ some 82) (hb : rdB t = some bs) : tailR id t = mkR id bs := by
  unfold tailR
  split
  · simp at h
  · rw [hb]
theorem tailR_none (id : Int) (t : List Int) (h : t.head? ≠ some 82) (hb : rdB t = none) : tailR id t = noFr 30 := by
  unfold tailR
  split
  · simp at h
  · rw [hb]

set_option maxHeartbeats 4000000 in
set_option maxRecDepth 100000 in
theorem readTail_any (id : Int) (t : List Int) (w : World) (ho : Oct t) (hl : t.length ≤ 1000000) :
    Calls Try.prog 28 #[.int .u16 id, .string (strOfNums t)] w fun e w' => e = .returned (tailR id t).tup ∧ Below w.heap.size w w' := by
  have hcp := fun w => cutPrefix_any 82 t w ho (by decide)
  have z0 : (w.alloc (.cells (frC 0 0 0 0 0 0 0 0 0 0 false) 26)).heap[w.heap.size]? = some (.cells (frC 0 0 0 0 0 0 0 0 0 0 false) 26 (0, 0)) := heap_new _ _
  have BA : Below w.heap.size w (w.alloc (.cells (frC 0 0 0 0 0 0 0 0 0 0 false) 26)) := Below.al (Below.refl _ _) _
  by_cases h : t.head? = some 82
  · rw [if_pos h] at hcp
    obtain ⟨l, rfl⟩ : ∃ l, t = 82 :: l := by
      cases t with
      | nil => simp at h
      | cons x l => simp at h; exact ⟨l, by rw [h]⟩
    rw [tailR_R]
    simp only [List.drop_succ_cons, List.drop_zero] at hcp
    have hnu := fun w => number_any l 1 w (fun n hn => ho n (by simp [hn])) (by decide)
    have hbd := nuV_bd1 l
    clear h ho hl
    generalize strOfNums (82 :: l) = s at *
    generalize strOfNums l = s' at *
    cases hb : nuB l 1 with
    | false =>
      rw [hb] at hnu
      simp only [Bool.false_eq_true, if_false]
      go_enter Try.func28, Try.ntmps28
      go_wp2_with fail
      refine (hcp _).mono ?_
      rintro e w1 ⟨rfl, rfl⟩
      go_wp2_with fail
      refine (hnu _).mono ?_
      rintro e w1 ⟨rfl, rfl⟩
      go_wp2_with fail
      exact bodyPost_ret (v := (noFr 30).tup) (by simp [results, Try.results28, go_sem, noFr]) rfl ⟨rfl, Below.al (Below.refl _ _) _⟩
    | true =>
      rw [hb] at hnu
      simp only [if_true]
      obtain ⟨hn0, hn1⟩ := hbd
      generalize nuV l 1 = n at *
      have hask := fun w => ask_any id n w
      obtain ⟨q, HQ⟩ : ∃ q, Hid (askR id n = q) := ⟨_, rfl⟩
      rw [HQ.out] at hask ⊢
      clear HQ
      obtain ⟨i, m, d0, d1, d2, d3, d4, d5, d6, d7, r, c⟩ := q
      dsimp only [FrR.tup] at hask ⊢
      go_enter Try.func28, Try.ntmps28
      go_wp2_with fail
      refine (hcp _).mono ?_
      rintro e w1 ⟨rfl, HW⟩
      subst HW
      go_wp2_with fail
      refine (hnu _).mono ?_
      rintro e w1 ⟨rfl, HW⟩
      subst HW
      go_wp2_with fail
      refine (hask _).mono ?_
      rintro e w2 ⟨rfl, hb2⟩
      have hg : w2.heap[w.heap.size]? = some (.cells (frC 0 0 0 0 0 0 0 0 0 0 false) 26 (0, 0)) := (hb2.block _ (by simp)).trans z0
      have B2 : Below w.heap.size w w2 := Below.andThen BA hb2
      clear hb2 z0 BA hask hnu hcp
      go_wp2_with (refine wpList_store_row rfl 26 _ _ rfl w.heap.size (frC i m d0 d1 d2 d3 d4 d5 d6 d7 r) rfl rfl 26 _ hg infoF rfl (frC_one _ _ _ _ _ _ _ _ _ _ _) ?_)
      have hc := fun j => cell_of_row (w2.setRow w.heap.size (frC i m d0 d1 d2 d3 d4 d5 d6 d7 r)) w.heap.size j _ _ _ (setRow_heap _ _ _ _ _ _ hg)
      refine bodyPost_ret (v := FrR.tup ⟨i, m, d0, d1, d2, d3, d4, d5, d6, d7, r, c⟩) ?_ rfl ⟨rfl, below_setRow B2 (Nat.le_refl _) _⟩
      simp [results, Try.results28, go_sem, hc]
  · rw [if_neg h] at hcp
    have hrb := fun w => readBytes_any t w ho hl
    have HT : Hid (t.head? ≠ some 82) := h
    clear h ho hl
    generalize strOfNums t = s at *
    go_enter Try.func28, Try.ntmps28
    go_wp2_with fail
    refine (hcp _).mono ?_
    rintro e w1 ⟨rfl, HW⟩
    subst HW
    go_wp2_with fail
    refine (hrb _).mono ?_
    clear hrb hcp
    rintro e w2 (⟨bs, a, cap, hbs, rfl, row, hb2⟩ | ⟨hbs, rfl, hb2⟩)
    · have hg : w2.heap[w.heap.size]? = some (.cells (frC 0 0 0 0 0 0 0 0 0 0 false) 26 (0, 0)) := (hb2.block _ (by simp)).trans z0
      have B2 : Below w.heap.size w w2 := Below.andThen BA hb2
      clear hb2 z0 BA
      have TR : Hid (tailR id t = mkR id bs) := tailR_some id t bs HT.out hbs
      clear hbs
      have hmk := fun (w : World) (h : Row w a bs.length bs) => make_any id a bs.length cap bs w h
      obtain ⟨q, HQ⟩ : ∃ q, Hid (mkR id bs = q) := ⟨_, rfl⟩
      rw [HQ.out] at hmk
      obtain ⟨i, m, d0, d1, d2, d3, d4, d5, d6, d7, r, c⟩ := q
      dsimp only [FrR.tup] at hmk
      go_wp2_with fail
      refine (hmk _ row).mono ?_
      rintro e w3 ⟨rfl, hb3⟩
      have hg3 : w3.heap[w.heap.size]? = some (.cells (frC 0 0 0 0 0 0 0 0 0 0 false) 26 (0, 0)) := (hb3.block _ (Array.getElem?_eq_some_iff.1 hg).1).trans hg
      have B3 : Below w.heap.size w w3 := Below.andThen B2 hb3
      clear hb3 hg B2 hmk row
      go_wp2_with (refine wpList_store_row rfl 26 _ _ rfl w.heap.size (frC i m d0 d1 d2 d3 d4 d5 d6 d7 r) rfl rfl 26 _ hg3 infoF rfl (frC_one _ _ _ _ _ _ _ _ _ _ _) ?_)
      have hc := fun j => cell_of_row (w3.setRow w.heap.size (frC i m d0 d1 d2 d3 d4 d5 d6 d7 r)) w.heap.size j _ _ _ (setRow_heap _ _ _ _ _ _ hg3)
      refine bodyPost_ret (v := FrR.tup ⟨i, m, d0, d1, d2, d3, d4, d5, d6, d7, r, c⟩) ?_ rfl ⟨by rw [TR.out, HQ.out], below_setRow B3 (Nat.le_refl _) _⟩
      simp [results, Try.results28, go_sem, hc]
    · have hg : w2.heap[w.heap.size]? = some (.cells (frC 0 0 0 0 0 0 0 0 0 0 false) 26 (0, 0)) := (hb2.block _ (by simp)).trans z0
      have B2 : Below w.heap.size w w2 := Below.andThen BA hb2
      clear hb2 z0 BA
      have TR : Hid (tailR id t = noFr 30) := tailR_none id t HT.out hbs
      clear hbs
      go_wp2_with (refine wpList_store_row rfl 26 _ _ rfl w.heap.size (frC 0 0 0 0 0 0 0 0 0 0 false) rfl rfl 26 _ hg infoF rfl (frC_one _ _ _ _ _ _ _ _ _ _ _) ?_)
      have hc := fun j => cell_of_row (w2.setRow w.heap.size (frC 0 0 0 0 0 0 0 0 0 0 false)) w.heap.size j _ _ _ (setRow_heap _ _ _ _ _ _ hg)
      refine bodyPost_ret (v := FrR.tup (noFr 30)) ?_ rfl ⟨by rw [TR.out], below_setRow B2 (Nat.le_refl _) _⟩
      simp [results, Try.results28, go_sem, hc, noFr]
#print axioms readTail_any
end Go.Proofs.Ytbjbnfhmehkkpaa
