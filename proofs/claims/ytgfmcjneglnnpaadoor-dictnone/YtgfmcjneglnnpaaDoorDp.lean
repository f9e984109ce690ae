/-
  DictNone returns true, where the example works.
-/
import Derived.Test.YtgfmcjneglnnpaaDoorDo
namespace Go.Proofs.YtgfmcjneglnnpaaDoor
open Go.RowKit

theorem lt_in8 (w : World) (i s : Int) (W : World) (h : Below (w.alloc (.cells #[.int .u16 i, .int .u8 s] 24)).heap.size (w.alloc (.cells #[.int .u16 i, .int .u8 s] 24)) W) : w.heap.size < W.heap.size := by
  have := h.size
  simp at this
  omega
theorem place_in8 (w : World) (i s : Int) (W : World) (h : Below (w.alloc (.cells #[.int .u16 i, .int .u8 s] 24)).heap.size (w.alloc (.cells #[.int .u16 i, .int .u8 s] 24)) W) : W.cell? ⟨w.heap.size, 0, none⟩ = some (.int .u16 i) ∧ W.cell? ⟨w.heap.size, 1, none⟩ = some (.int .u8 s) :=
  place_in w i s W (by simpa using h)
set_option linter.unusedSimpArgs false in
set_option maxHeartbeats 4000000 in
set_option maxRecDepth 100000 in
theorem dictNone_of (i s : Int) (b : Option Addr) (lb cb : Nat) (g : Int) (w : World) (HW : Hid (∀ W, Below w.heap.size w W → Calls Tryd.prog 19 #[] W fun e w' => e = .returned (.bool true) ∧ Below W.heap.size W w')) :
    Calls Tryd.prog 3 #[plV i s, .slice b lb cb, .int .u8 g] w fun e w' => e = .returned (.bool true) ∧ Below w.heap.size w w' := by
  go_enter Tryd.func3, Tryd.ntmps3
  go_wp2_with fail
  refine (findE_nil i s _).mono ?_
  rintro e w1 ⟨rfl, hb⟩
  have B1 : Hid (Below (w.alloc (.cells #[.int .u16 i, .int .u8 s] 24)).heap.size (w.alloc (.cells #[.int .u16 i, .int .u8 s] 24)) w1) := hb
  obtain ⟨q10, q11⟩ := place_in8 w i s w1 B1.out
  have l1 := lt_in8 w i s w1 B1.out
  clear hb
  go_wp2_with fail
  refine (read_nil8 i s _).mono ?_
  rintro e w2 ⟨rfl, hb⟩
  have B2 : Hid (Below (w.alloc (.cells #[.int .u16 i, .int .u8 s] 24)).heap.size (w.alloc (.cells #[.int .u16 i, .int .u8 s] 24)) w2) := Below.andThen (Below.al B1.out _) hb
  have X2 : Hid (w2.heap[w1.heap.size]? = some (.cells (enC 0 0 ⟨#[]⟩ 0 0 none 0 0 none 0 0 none 0 0 0 0) 28 (0, 0))) := blk11 hb (at11 _ _ _ rfl)
  obtain ⟨q20, q21⟩ := place_in8 w i s w2 B2.out
  have l2 := lt_in8 w i s w2 B2.out
  clear hb q10 q11
  go_wp2_with fail
  refine (may_nil i s b lb cb _).mono ?_
  rintro e w3 ⟨rfl, hb⟩
  have B3 : Hid (Below (w.alloc (.cells #[.int .u16 i, .int .u8 s] 24)).heap.size (w.alloc (.cells #[.int .u16 i, .int .u8 s] 24)) w3) := Below.andThen B2.out hb
  have X3 : Hid (w3.heap[w1.heap.size]? = some (.cells (enC 0 0 ⟨#[]⟩ 0 0 none 0 0 none 0 0 none 0 0 0 0) 28 (0, 0))) := blk11 hb X2.out
  obtain ⟨q30, q31⟩ := place_in8 w i s w3 B3.out
  have l3 := lt_in8 w i s w3 B3.out
  clear hb q20 q21
  go_wp2_with fail
  refine (get_nil i s _).mono ?_
  rintro e w4 ⟨rfl, hb⟩
  have B4 : Hid (Below (w.alloc (.cells #[.int .u16 i, .int .u8 s] 24)).heap.size (w.alloc (.cells #[.int .u16 i, .int .u8 s] 24)) w4) := Below.andThen B3.out hb
  have X4 : Hid (w4.heap[w1.heap.size]? = some (.cells (enC 0 0 ⟨#[]⟩ 0 0 none 0 0 none 0 0 none 0 0 0 0) 28 (0, 0))) := blk11 hb X3.out
  obtain ⟨q40, q41⟩ := place_in8 w i s w4 B4.out
  have l4 := lt_in8 w i s w4 B4.out
  clear hb q30 q31
  go_wp2_with fail
  refine (number_nil i s _).mono ?_
  rintro e w5 ⟨rfl, hb⟩
  have B5 : Hid (Below (w.alloc (.cells #[.int .u16 i, .int .u8 s] 24)).heap.size (w.alloc (.cells #[.int .u16 i, .int .u8 s] 24)) w5) := Below.andThen B4.out hb
  have X5 : Hid (w5.heap[w1.heap.size]? = some (.cells (enC 0 0 ⟨#[]⟩ 0 0 none 0 0 none 0 0 none 0 0 0 0) 28 (0, 0))) := blk11 hb X4.out
  obtain ⟨q50, q51⟩ := place_in8 w i s w5 B5.out
  have l5 := lt_in8 w i s w5 B5.out
  clear hb q40 q41
  go_wp2_with fail
  refine (load_nil g b lb cb _).mono ?_
  rintro e w0 ⟨rfl, h0⟩
  obtain rfl := h0.symm
  have e0 : w5.cell? ⟨w1.heap.size, 0, none⟩ = some (.int .u16 0) := by rw [cell_of_row _ _ 0 _ _ _ X5.out]; rfl
  have e1 : w5.cell? ⟨w1.heap.size, 1, none⟩ = some (.int .u8 0) := by rw [cell_of_row _ _ 1 _ _ _ X5.out]; rfl
  have e2 : w5.cell? ⟨w1.heap.size, 2, none⟩ = some (.string ⟨#[]⟩) := by rw [cell_of_row _ _ 2 _ _ _ X5.out]; rfl
  have e3 : w5.cell? ⟨w1.heap.size, 3, none⟩ = some (.int .u8 0) := by rw [cell_of_row _ _ 3 _ _ _ X5.out]; rfl
  have e4 : w5.cell? ⟨w1.heap.size, 4, none⟩ = some (.int .u8 0) := by rw [cell_of_row _ _ 4 _ _ _ X5.out]; rfl
  have e5 : w5.cell? ⟨w1.heap.size, 5, none⟩ = some (.slice none 0 0) := by rw [cell_of_row _ _ 5 _ _ _ X5.out]; rfl
  have e6 : w5.cell? ⟨w1.heap.size, 6, none⟩ = some (.slice none 0 0) := by rw [cell_of_row _ _ 6 _ _ _ X5.out]; rfl
  have e7 : w5.cell? ⟨w1.heap.size, 7, none⟩ = some (.slice none 0 0) := by rw [cell_of_row _ _ 7 _ _ _ X5.out]; rfl
  have e8 : w5.cell? ⟨w1.heap.size, 8, none⟩ = some (.int .u8 0) := by rw [cell_of_row _ _ 8 _ _ _ X5.out]; rfl
  have e9 : w5.cell? ⟨w1.heap.size, 9, none⟩ = some (.int .u8 0) := by rw [cell_of_row _ _ 9 _ _ _ X5.out]; rfl
  go_wp2_with fail
  refine (sameEntry_zero _).mono ?_
  rintro e w6 ⟨rfl, hb⟩
  have B6 : Hid (Below (w.alloc (.cells #[.int .u16 i, .int .u8 s] 24)).heap.size (w.alloc (.cells #[.int .u16 i, .int .u8 s] 24)) w6) := Below.andThen B5.out hb
  have X6 : Hid (w6.heap[w1.heap.size]? = some (.cells (enC 0 0 ⟨#[]⟩ 0 0 none 0 0 none 0 0 none 0 0 0 0) 28 (0, 0))) := blk11 hb X5.out
  obtain ⟨q60, q61⟩ := place_in8 w i s w6 B6.out
  have l6 := lt_in8 w i s w6 B6.out
  clear hb e0 e1 e2 e3 e4 e5 e6 e7 e8 e9 q50 q51
  go_wp2_with fail
  refine (write_nil8 i s b lb cb _).mono ?_
  rintro e w7 ⟨rfl, hb⟩
  have B7 : Hid (Below (w.alloc (.cells #[.int .u16 i, .int .u8 s] 24)).heap.size (w.alloc (.cells #[.int .u16 i, .int .u8 s] 24)) w7) := Below.andThen B6.out hb
  have X7 : Hid (w7.heap[w1.heap.size]? = some (.cells (enC 0 0 ⟨#[]⟩ 0 0 none 0 0 none 0 0 none 0 0 0 0) 28 (0, 0))) := blk11 hb X6.out
  obtain ⟨q70, q71⟩ := place_in8 w i s w7 B7.out
  have l7 := lt_in8 w i s w7 B7.out
  clear hb q60 q61
  go_wp2_with fail
  refine (set_nil i s b lb cb _).mono ?_
  rintro e w8 ⟨rfl, hb⟩
  have B8 : Hid (Below (w.alloc (.cells #[.int .u16 i, .int .u8 s] 24)).heap.size (w.alloc (.cells #[.int .u16 i, .int .u8 s] 24)) w8) := Below.andThen B7.out hb
  have X8 : Hid (w8.heap[w1.heap.size]? = some (.cells (enC 0 0 ⟨#[]⟩ 0 0 none 0 0 none 0 0 none 0 0 0 0) 28 (0, 0))) := blk11 hb X7.out
  obtain ⟨q80, q81⟩ := place_in8 w i s w8 B8.out
  have l8 := lt_in8 w i s w8 B8.out
  clear hb q70 q71
  go_wp2_with fail
  refine (reset_nil8 g _).mono ?_
  rintro e w0 ⟨rfl, h0⟩
  obtain rfl := h0.symm
  go_wp2_with fail
  refine (save_nil g _).mono ?_
  rintro e w0 ⟨rfl, h0⟩
  obtain rfl := h0.symm
  go_wp2_with fail
  refine (entries_nil _).mono ?_
  rintro e w0 ⟨rfl, h0⟩
  obtain rfl := h0.symm
  go_wp2_with fail
  refine (changes_nil _).mono ?_
  rintro e w0 ⟨rfl, h0⟩
  obtain rfl := h0.symm
  go_wp2_with fail
  refine (copy_nil _).mono ?_
  rintro e w0 ⟨rfl, h0⟩
  obtain rfl := h0.symm
  go_wp2_with fail
  refine (HW.out _ (Below.andThen (Below.al (Below.refl _ _) _) B8.out)).mono ?_
  rintro e w9 ⟨rfl, hb⟩
  have B9 : Hid (Below (w.alloc (.cells #[.int .u16 i, .int .u8 s] 24)).heap.size (w.alloc (.cells #[.int .u16 i, .int .u8 s] 24)) w9) := Below.andThen B8.out hb
  have X9 : Hid (w9.heap[w1.heap.size]? = some (.cells (enC 0 0 ⟨#[]⟩ 0 0 none 0 0 none 0 0 none 0 0 0 0) 28 (0, 0))) := blk11 hb X8.out
  obtain ⟨q90, q91⟩ := place_in8 w i s w9 B9.out
  have l9 := lt_in8 w i s w9 B9.out
  clear hb q80 q81
  go_wp2_with fail
  go_ret
  exact ⟨rfl, Below.andThen (Below.al (Below.refl _ _) _) B9.out⟩
#print axioms dictNone_of
end Go.Proofs.YtgfmcjneglnnpaaDoor
