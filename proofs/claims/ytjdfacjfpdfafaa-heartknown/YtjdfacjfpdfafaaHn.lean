/-
  The document's watch in memory; its NewWatch.
-/
import Derived.Test.YtjdfacjfpdfafaaHe
namespace Go.Proofs.Ytjdfacjfpdfafaa
open Go.RowKit

/-- The document's node. -/
def Nd.D (x : Nd) : List Value := [.int .i64 x.W, .bool x.h, .bool x.g, .int .u8 x.s, .int .i64 x.t]
def dC (S : List Nd) : List Value := S.flatMap Nd.D
theorem dC_len (S : List Nd) : (dC S).length = S.length * 5 := by
  induction S with
  | nil => rfl
  | cons x S ih => simp only [dC, List.flatMap_cons, List.length_append, List.length_cons] at ih ⊢; rw [ih]; simp [Nd.D]; omega
theorem dC_drop (S : List Nd) (k : Nat) : (dC S).drop (k * 5) = dC (S.drop k) := by
  induction S generalizing k with
  | nil => simp [dC]
  | cons x S ih =>
    cases k with
    | zero => simp
    | succ k =>
      rw [List.drop_succ_cons, ← ih k, show (k + 1) * 5 = 5 + k * 5 from by omega, ← List.drop_drop]
      rfl
theorem dC_take (S : List Nd) (k : Nat) : (dC S).take (k * 5) = dC (S.take k) := by
  induction S generalizing k with
  | nil => simp [dC]
  | cons x S ih =>
    cases k with
    | zero => simp [dC]
    | succ k =>
      rw [List.take_succ_cons]
      have e : dC (x :: S) = x.D ++ dC S := rfl
      have e2 : dC (x :: S.take k) = x.D ++ dC (S.take k) := rfl
      rw [e, e2, ← ih k, show (k + 1) * 5 = x.D.length + k * 5 from by simp [Nd.D]; omega, List.take_length_add_append]
theorem dC_part {S : List Nd} {k : Nat} {x : Nd} (h : S[k]? = some x) : ((dC S).drop (k * 5)).take 5 = x.D := by
  obtain ⟨hk, rfl⟩ := List.getElem?_eq_some_iff.1 h
  rw [dC_drop, List.drop_eq_getElem_cons hk]
  rfl
theorem dC_get {S : List Nd} {k : Nat} {x : Nd} (h : S[k]? = some x) (j : Nat) (hj : j < 5) : (dC S)[k * 5 + j]? = x.D[j]? := by
  rw [← dC_part h, List.getElem?_take_of_lt hj, List.getElem?_drop]
theorem dC_set {S : List Nd} {k : Nat} {y : Nd} (hk : k < S.length) : (dC S).take (k * 5) ++ y.D ++ (dC S).drop (k * 5 + y.D.length) = dC (S.set k y) := by
  rw [dC_take, show k * 5 + y.D.length = (k + 1) * 5 from by simp [Nd.D]; omega, dC_drop]
  rw [List.set_eq_take_append_cons_drop, if_pos hk]
  simp [dC]
/-- The document's watch. -/
structure IsD (w : World) (q r : Nat) (S : List Nd) : Prop where
  row : w.heap[q]? = some (.cells #[.slice (some ⟨r, 0, none⟩) 128 128] 84 (0, 0))
  l : w.heap[r]? = some (.cells (dC S).toArray 89 (0, 0))
  sl : S.length = 128
theorem IsD.next {w w' : World} {q r : Nat} {S : List Nd} (h : IsD w q r S) (hb : Below w.heap.size w w') : IsD w' q r S := ⟨blk11 hb h.row, blk11 hb h.l, h.sl⟩
theorem IsD.kt {w w' : World} {base q r : Nat} {S : List Nd} (h : IsD w q r S) (hk : Kt base w w') : IsD w' q r S := ⟨hk.typ _ _ _ _ h.row (by decide) (by decide), hk.typ _ _ _ _ h.l (by decide) (by decide), h.sl⟩
theorem IsD.cell {w : World} {q r : Nat} {S : List Nd} (h : IsD w q r S) {k : Nat} {x : Nd} (hx : S[k]? = some x) (j : Nat) (v : Value) (hj : x.D[j]? = some v) : w.cell? ⟨r, k * 5 + j, none⟩ = some v := by
  have h5 : j < 5 := (List.getElem?_eq_some_iff.1 hj).1
  rw [cell_of_row w r _ _ _ _ h.l]
  simp only [List.getElem?_toArray]
  rw [dC_get hx j h5, hj]
theorem IsD.ne {w : World} {q r : Nat} {S : List Nd} (h : IsD w q r S) : q ≠ r := by
  rintro rfl
  have := h.row.symm.trans h.l
  simp at this
theorem infoN : (Try.prog.info? 89).map (·.size) = some 5 := by kernel_rfl
theorem aggN (w : World) : (isAgg 89).run Try.prog w = .ok true w := by kernel_rfl
theorem IsD.load {w : World} {q r : Nat} {S : List Nd} (h : IsD w q r S) {k : Nat} {x : Nd} (hx : S[k]? = some x) : (loadVar 89 ⟨r, k * 5, none⟩).run Try.prog w = .ok (.agg x.D.toArray) w := by
  have hk := (List.getElem?_eq_some_iff.1 hx).1
  rw [load_part 89 5 infoN aggN w r (k * 5) (dC S) 89 h.l (by rw [dC_len]; omega), dC_part hx]
theorem D_one (x : Nd) : ∀ v ∈ x.D, v.oneCell' = true := by intro v hv; simp [Nd.D] at hv; rcases hv with rfl | rfl | rfl | rfl | rfl <;> rfl
/-- The row of a watch with one node put. -/
abbrev rowD (S : List Nd) : Array Value := (dC S).toArray
theorem IsD.store {w : World} {q r : Nat} {S : List Nd} (h : IsD w q r S) {k : Nat} (hk : k < 128) (y : Nd) : (storeVar 89 ⟨r, k * 5, none⟩ (.agg y.D.toArray)).run Try.prog w = .ok () (w.setRow r (rowD (S.set k y))) := by
  have hl := h.sl
  have := store_part 89 5 infoN w r (k * 5) (dC S).toArray 89 h.l y.D rfl (by simp [dC_len]; omega) (D_one y)
  rw [this]
  rw [dC_set (by omega)]
theorem IsD.put {w : World} {q r : Nat} {S : List Nd} (h : IsD w q r S) (k : Nat) (y : Nd) : IsD (w.setRow r (rowD (S.set k y))) q r (S.set k y) ∧ Kp [r] w (w.setRow r (rowD (S.set k y))) :=
  ⟨⟨(setRow_other _ _ _ _ h.ne).trans h.row, setRow_heap _ _ _ _ _ _ h.l, by simp [h.sl]⟩, (Kp.refl _ _).row _ _ (.inl (by simp))⟩
set_option linter.unusedSimpArgs false in
set_option maxHeartbeats 4000000 in
set_option maxRecDepth 100000 in
theorem newD_any (w : World) : Calls Try.prog 17 #[] w fun e w' => e = .returned (pt (w.heap.size + 1)) ∧ IsD w' (w.heap.size + 1) w.heap.size (List.replicate 128 (fresh 0)) ∧ Below w.heap.size w w' := by
  have MK : ∀ w : World, (Instr.makeSlice 82 (.int .i64 128) (.int .i64 128)).run Try.prog w = .ok (.slice (some ⟨w.heap.size, 0, none⟩) 128 128) (w.alloc (.cells (rowD (List.replicate 128 (fresh 0))) 89)) := fun w => by kernel_rfl
  have F : Hid (IsD ((w.alloc (.cells (rowD (List.replicate 128 (fresh 0))) 89)).alloc (.cells #[.slice (some ⟨w.heap.size, 0, none⟩) 128 128] 84)) (w.heap.size + 1) w.heap.size (List.replicate 128 (fresh 0))) := ⟨at11 _ _ _ (by simp), ext11 (at11 _ _ _ rfl), by simp⟩
  go_enter Try.func17, Try.ntmps17
  go_wp2_with fail
  go_ret
  exact ⟨by simp, F.out, (by repeat (first | exact Below.refl _ _ | apply Below.drew | apply Below.al))⟩
#print axioms newD_any
end Go.Proofs.Ytjdfacjfpdfafaa
