/-
  A value's bits, taken out of a row.
-/
import Derived.Test.YtgpgpoohchogdaaDoorGg
namespace Go.Proofs.YtgpgpoohchogdaaDoor
open Go.RowKit

/-- The bytes of bits of a row. -/
def tkB (zs : List Int) (nx n : Nat) : List Int := layB zs nx n 0 (List.replicate ((n + 7) / 8) 0)
theorem tkB_len (zs : List Int) (nx n : Nat) : (tkB zs nx n).length = (n + 7) / 8 := by unfold tkB layB; rw [layL_len]; simp

set_option linter.unusedSimpArgs false in
set_option maxHeartbeats 4000000 in
set_option maxRecDepth 100000 in
theorem take_any (n nx Bb Bx : Nat) (a : Option Addr) (len cap : Nat) (zs : List Int) (w : World) (hb : w.heap[Bb]? = some (.cells #[.slice a len cap] 24 (0, 0))) (hx : w.heap[Bx]? = some (.cells #[.int .i64 (nx : Int)] 3 (0, 0))) (hr : Row w a len zs) (hn : n ≤ 64) (hl : nx + n ≤ 8 * len) (hlen : len ≤ 1000000) :
    Calls Tryd.prog 23 #[.int .i64 (n : Int), .pointer (some ⟨Bb, 0, none⟩), .pointer (some ⟨Bx, 0, none⟩)] w fun e w' => ∃ g, e = .returned (.slice (some ⟨g, 0, none⟩) ((n + 7) / 8) ((n + 7) / 8)) ∧ w.heap.size ≤ g ∧ w'.heap[g]? = some (.cells ((tkB zs nx n).map (Value.int .u8)).toArray 5 (0, 0)) ∧ w'.heap[Bx]? = some (.cells #[.int .i64 ((nx + n : Nat) : Int)] 3 (0, 0)) ∧ Kp [Bx] w w' := by
  obtain ⟨R, hR⟩ : ∃ R, Hid (R = (n + 7) / 8) := ⟨_, rfl⟩
  rw [← hR.out]
  have HF : Hid (∀ W, Calls Tryd.prog 24 #[.int .i64 (n : Int)] W fun e w' => e = .returned (.int .i64 (R : Int)) ∧ w' = W) := fun W => by rw [hR.out]; exact bytesFor_any n W (by omega)
  have MK := mkZ R (by have := hR.out; omega)
  have HB : Hid (w.heap[Bb]? = some (.cells #[.slice a len cap] 24 (0, 0))) := hb
  have HX : Hid (w.heap[Bx]? = some (.cells #[.int .i64 (nx : Int)] 3 (0, 0))) := hx
  have HW : Hid (Row w a len zs) := hr
  have lb := lt_of_heap hb
  have lx := lt_of_heap hx
  have c0 : w.cell? ⟨Bb, 0, none⟩ = some (.slice a len cap) := by rw [cell_of_row _ _ 0 _ _ _ hb]; rfl
  have c1 : w.cell? ⟨Bx, 0, none⟩ = some (.int .i64 (nx : Int)) := by rw [cell_of_row _ _ 0 _ _ _ hx]; rfl
  clear hb hx hr
  go_enter Tryd.func23, Tryd.ntmps23
  go_wp2_with fail
  refine (HF.out _).mono ?_
  rintro e w1 ⟨rfl, rfl⟩
  go_wp2_with fail
  refine (bits_any a len cap nx n _).mono ?_
  rintro e w2 ⟨rfl, rfl⟩
  go_wp2_with fail
  obtain ⟨V, HV⟩ : ∃ V, Hid (w1.alloc (.cells (zC R) 5) = V) := ⟨_, rfl⟩
  have BV : Hid (Below w1.heap.size w1 V) := by show Below _ _ _; rw [← HV.out]; exact (by repeat (first | exact Below.refl _ _ | apply Below.drew | apply Below.al))
  have SV : Hid (V.heap.size = w1.heap.size + 1) := by show _ = _; rw [← HV.out]; simp
  have GV : Hid (V.heap[w1.heap.size]? = some (.cells ((List.replicate R (0 : Int)).map (Value.int .u8)).toArray 5 (0, 0))) := by show _ = _; rw [← HV.out]; exact heap_new _ _
  have old : Hid (0 < len → ∀ b o, a = some ⟨b, o, none⟩ → b < w1.heap.size) := fun hp b o e => HW.out.old hp b o e
  rw [show w1.alloc (.cells (zC R) 5) = V from HV.out]
  have sv := SV.out
  refine (lay_any _ (w1.heap.size + 1 + 1 + 1) (w1.heap.size + 1 + 1) (w1.heap.size + 1) w1.heap.size R nx 0 n a len cap zs (List.replicate R 0) (by omega) hlen (by have := hR.out; omega) (by have := hR.out; omega) (by simp) (by omega) (by omega) (by omega) ?_ ?_ (ext11 (ext11 (ext11 GV.out)))).mono ?_
  · intro hp b o e
    have := old.out hp b o e
    omega
  · exact ⟨at11 _ _ _ (by simp; omega), ext11 (at11 _ _ _ (by simp; omega)), ext11 (ext11 (at11 _ _ _ sv.symm)), (HW.out.next BV.out).next (by repeat (first | exact Below.refl _ _ | apply Below.drew | apply Below.al))⟩
  rintro e w5 ⟨rfl, h5, k5⟩
  have X5 : Hid (w5.heap[Bx]? = some (.cells #[.int .i64 (nx : Int)] 3 (0, 0))) := k5.at (by simp; omega) (ext11 (ext11 (ext11 (blk11 BV.out HX.out))))
  have d1 : w5.cell? ⟨Bx, 0, none⟩ = some (.int .i64 (nx : Int)) := by rw [cell_of_row _ _ 0 _ _ _ X5.out]; rfl
  have f1 : w5.frozen? ⟨Bx, 0, none⟩ = false := frozen_of_row _ _ _ _ _ X5.out
  have H5 : Hid (w5.heap[w1.heap.size]? = some (.cells ((tkB zs nx n).map (Value.int .u8)).toArray 5 (0, 0))) := by
    show _ = _
    unfold tkB
    rw [← hR.out]
    exact h5
  have K5 : Hid (Below w1.heap.size w1 w5) := Kp.below (Below.al (Below.al (Below.al BV.out _) _) _) k5 (by have := BV.out.size; simp; omega) (by simp)
  have wn : IntKind.i64.wrap ((nx : Int) + (n : Int)) = ((nx + n : Nat) : Int) := by rw [IntKind.wrap_i64]; omega
  clear h5 k5 c0 c1
  go_wp2_with fail
  go_ret
  refine ⟨w1.heap.size, rfl, Nat.le_refl _, ?_, ?_, ?_⟩
  · exact (heap_setCell_other _ _ _ _ (by show ¬ w1.heap.size = Bx; omega)).trans H5.out
  · rw [heap_setCell_same w5 Bx 0 _ _ _ X5.out]
    simp
  · exact (Kp.of K5.out).set _ _ (.inl (by simp))
#print axioms take_any
end Go.Proofs.YtgpgpoohchogdaaDoor
