/-
  Rows of places, sorted: between the library's words and ours; the order of places is one.
-/
import Derived.Test.YtpjmebaipnpegaaDoorHc
import Derived.Shelf.SlSortCmp.InsertionK
namespace Go.Proofs.YtpjmebaipnpegaaDoor
open Go.RowKit Go.Sort Go.Shelf

instance : Inhabited Pq := ⟨⟨0, 0⟩⟩
theorem cmpI_lt (x y : Int) : cmpI x y < 0 ↔ x < y := by
  unfold cmpI
  split
  · simp [*]
  · split <;> simp <;> omega
theorem cmpI_zero (x y : Int) : cmpI x y = 0 ↔ x = y := by
  unfold cmpI
  split
  · simp; omega
  · split
    · simp; omega
    · simp; omega
/-- Which of two places is ahead. -/
theorem ltP (x y : Pq) : Go.Proofs.ltOf cfP x y = decide (x.i < y.i ∨ (x.i = y.i ∧ x.s < y.s)) := by
  unfold Go.Proofs.ltOf cfP
  congr 1
  by_cases h : cmpI x.i y.i = 0
  · rw [if_pos h, cmpI_lt]
    have := (cmpI_zero _ _).1 h
    rw [this]
    simp
  · rw [if_neg h, cmpI_lt]
    have : x.i ≠ y.i := fun e => h ((cmpI_zero _ _).2 e)
    simp [this]
theorem swoP : SWO (Go.Proofs.ltOf cfP) where
  irrefl x := by rw [ltP]; simp
  trans x y z h1 h2 := by rw [ltP] at *; simp at *; omega
  ntrans x y z h1 h2 := by rw [ltP] at *; simp only [decide_eq_false_iff_not] at *; omega
theorem totP (x y : Pq) (h1 : Go.Proofs.ltOf cfP x y = false) (h2 : Go.Proofs.ltOf cfP y x = false) : x = y := by
  rw [ltP] at h1 h2
  simp only [decide_eq_false_iff_not] at h1 h2
  obtain ⟨a, b⟩ := x
  obtain ⟨c, d⟩ := y
  simp only [Pq.mk.injEq]
  dsimp only at h1 h2
  omega
/-- Places in their order. -/
def srt (l : List Pq) : List Pq := l.mergeSort fun x y => !(Go.Proofs.ltOf cfP) y x
theorem flatP (l : List Pq) : flatK Pq.L 2 l.toArray = (flq l).toArray := by
  apply Array.ext
  · simp [flq_len]
  · intro j h1 h2
    have h1' : j < l.length * 2 := by simpa using h1
    have hi : j / 2 < l.length := by omega
    have e1 := get_flatK Pq.L 2 l.toArray j (by simpa using h1')
    rw [getElem!_pos _ j h1] at e1
    rw [e1]
    have e2 := flq_at l (j / 2) l[j / 2] (List.getElem?_eq_getElem hi)
    have e3 : (flq l)[j]? = (l[j / 2]).L[j % 2]? := by
      rw [← e2, List.getElem?_take, if_pos (by omega), List.getElem?_drop]
      congr 1
      omega
    have e4 : l.toArray[j / 2]! = l[j / 2] := by rw [getElem!_pos _ _ (by simpa using hi)]; simp
    rw [e4]
    have h3 : j < (flq l).length := by simpa using h2
    rw [List.getElem?_eq_getElem h3] at e3
    have h4 : j % 2 < (l[j / 2]).L.length := by rw [Pq.L_len]; omega
    rw [List.getElem?_eq_getElem h4] at e3
    rw [getElem!_pos (l[j / 2]).L (j % 2) h4]
    simpa using e3.symm
theorem IsQ.holds {w : World} {base g cap : Nat} {l : List Pq} (h : IsQ w base (.slice (some ⟨g, 0, none⟩) l.length cap) l) : HoldsK Pq.L 2 w g 0 l.toArray := by
  rcases h.form with ⟨h1, _⟩ | ⟨g', cap', cur, hv, hg, hh, hn, hm, hs, ht⟩
  · cases h1
  · cases hv
    unfold HoldsK
    rw [flatP]
    intro j hj
    have hj' : j < (flq l).length := by simpa using hj
    refine ⟨?_, frozen_of_row w g _ _ _ hh⟩
    rw [Nat.zero_add, cell_of_row w g j _ _ _ hh, getElem!_pos _ j hj]
    have hl := flq_len l
    have : (cur.toList.take (l.length * 2))[j]? = (flq l)[j]? := by rw [ht]
    rw [List.getElem?_take, if_pos (by omega), List.getElem?_eq_getElem hj'] at this
    simpa using this
/-- A row that was sorted. -/
theorem IsQ.sorted {w : World} {base g cap : Nat} {l l' : List Pq} (h : IsQ w base (.slice (some ⟨g, 0, none⟩) l.length cap) l) (hl : l'.length = l.length) (n : Nat) (os : Array Obj) :
    IsQ (Go.Proofs.sortWorldK Pq.L 2 w g 0 n l'.toArray os) base (.slice (some ⟨g, 0, none⟩) l'.length cap) l' ∧ Kp [g] w (Go.Proofs.sortWorldK Pq.L 2 w g 0 n l'.toArray os) := by
  rcases h.form with ⟨h1, _⟩ | ⟨g', cap', cur, hv, hg, hh, hn, hm, hs, ht⟩
  · cases h1
  · cases hv
    have hgl := lt_of_heap hh
    have hp : (putRowK Pq.L 2 (Go.Sort.ahead w n) g 0 l'.toArray).heap[g]? = some (.cells (putCells id 0 (flq l').toArray cur) 33 (0, 0)) := by
      unfold putRowK putRow mapBlock
      rw [flatP]
      simp only [Array.getElem?_modify, if_true]
      show (w.heap[g]?).map _ = _
      rw [hh]
      rfl
    have hsz : (putRowK Pq.L 2 (Go.Sort.ahead w n) g 0 l'.toArray).heap.size = w.heap.size := by
      unfold putRowK
      rw [size_putRow]
      rfl
    refine ⟨⟨flq_len l', .inr ⟨g, cap, putCells id 0 (flq l').toArray cur, rfl, hg, ?_, by omega, hm, by simp [putCells, hs], ?_⟩⟩, rfl, rfl, rfl, ?_, fun k hk hn => ?_⟩
    · unfold Go.Proofs.sortWorldK grow
      rw [Array.getElem?_append_left (by rw [hsz]; exact hgl)]
      exact hp
    · apply List.ext_getElem?
      intro j
      have hll := flq_len l'
      rw [List.getElem?_take]
      by_cases hj : j < l'.length * 2
      · have hc : j < cur.size := by rw [hs]; omega
        have hF : j < (flq l').toArray.size := by simp; omega
        have e : (putCells id 0 (flq l').toArray cur)[j]? = some ((flq l').toArray[j]!) := by
          unfold putCells
          rw [Array.getElem?_mapIdx, Array.getElem?_eq_getElem hc, Option.map_some, if_pos ⟨Nat.zero_le _, by rw [Nat.zero_add]; exact hF⟩]
          rfl
        rw [if_pos hj, Array.getElem?_toList, e, getElem!_pos (flq l').toArray j hF]
        simp
      · rw [if_neg hj, List.getElem?_eq_none (by omega)]
    · unfold Go.Proofs.sortWorldK grow
      simp only [Array.size_append, hsz]
      omega
    · unfold Go.Proofs.sortWorldK grow
      rw [Array.getElem?_append_left (by rw [hsz]; exact hk)]
      unfold putRowK putRow mapBlock
      simp at hn
      simp only [Array.getElem?_modify, if_neg (Ne.symm hn)]
      rfl
#print axioms IsQ.sorted
#print axioms IsQ.holds
#print axioms swoP
end Go.Proofs.YtpjmebaipnpegaaDoor
