/-
  Words held against each other; the walk of falls.
-/
import Derived.Test.YtgpbmccjcjoijaaFf
import Derived.DeepKeys
namespace Go.Proofs.Ytgpbmccjcjoijaa
open Go.RowKit

/-- A word's cells. -/
abbrev w4 (a b c d : Int) : Array Value := #[.int .u8 a, .int .u8 b, .int .u8 c, .int .u8 d]

theorem item8 (d : Nat) (w : World) (xs ys : Array Value) (j : Nat) (is : List Nat) (x y : Int) (q : Bool) (hx : xs[j]? = some (.int .u8 x)) (hy : ys[j]? = some (.int .u8 y))
    (h : (Op.eqItems (d + 1) 5 1 xs ys is).run Try.prog w = .ok q w) : (Op.eqItems (d + 1) 5 1 xs ys (j :: is)).run Try.prog w = .ok (x == y && q) w := by
  have p1 : (part 5 xs (j * 1)).run Try.prog w = .ok (.int .u8 x) w := by
    simp [part, isAgg, run_underlying Try.underlying5, hx]
  have p2 : (part 5 ys (j * 1)).run Try.prog w = .ok (.int .u8 y) w := by
    simp [part, isAgg, run_underlying Try.underlying5, hy]
  simp only [Op.eqItems, Sem.run_bind, p1, p2, run_equalIn_int w d 5 .u8 .u8 x y Try.underlying5, Result.andThen_ok]
  by_cases e : x = y
  · subst e; simpa using h
  · simp [e]
theorem eqIn4 (d : Nat) (w : World) (a0 a1 a2 a3 b0 b1 b2 b3 : Int) :
    (Op.equalIn (d + 2) 53 (.agg (w4 a0 a1 a2 a3)) (.agg (w4 b0 b1 b2 b3))).run Try.prog w = .ok (a0 == b0 && (a1 == b1 && (a2 == b2 && (a3 == b3 && true)))) w := by
  obtain ⟨i, hi, hz0, hz1, hz2⟩ := info_parts info8
  rw [run_equalIn_array w (d + 1) _ _ Try.underlying53 hi]
  rw [show List.range 4 = [0, 1, 2, 3] from rfl, show Try.prog.cellsOf 5 = 1 from by kernel_rfl]
  refine item8 d w _ _ _ _ _ _ _ rfl rfl ?_
  refine item8 d w _ _ _ _ _ _ _ rfl rfl ?_
  refine item8 d w _ _ _ _ _ _ _ rfl rfl ?_
  refine item8 d w _ _ _ _ _ _ _ rfl rfl ?_
  rfl
/-- Are four bytes the same? -/
def same4 (a0 a1 a2 a3 b0 b1 b2 b3 : Int) : Bool := a0 == b0 && (a1 == b1 && (a2 == b2 && (a3 == b3 && true)))
theorem same4_iff (a0 a1 a2 a3 b0 b1 b2 b3 : Int) : same4 a0 a1 a2 a3 b0 b1 b2 b3 = true ↔ a0 = b0 ∧ a1 = b1 ∧ a2 = b2 ∧ a3 = b3 := by simp [same4]
theorem eql4 (w : World) (a0 a1 a2 a3 b0 b1 b2 b3 : Int) :
    (binOp .eql 53 (.agg (w4 a0 a1 a2 a3)) (.agg (w4 b0 b1 b2 b3))).run Try.prog w = .ok (.bool (same4 a0 a1 a2 a3 b0 b1 b2 b3)) w := by
  rw [run_eql_struct, eqIn4 9998]
  rfl

/-- Two bytes, bit by bit. -/
def An (b a : Int) : Int := bits .and .u8 b a
/-- Can a word be written over another one? -/
def fallB (a0 a1 a2 a3 b0 b1 b2 b3 : Int) : Bool := same4 (An b0 a0) (An b1 a1) (An b2 a2) (An b3 a3) b0 b1 b2 b3

set_option linter.unusedSimpArgs false in
set_option maxHeartbeats 4000000 in
set_option maxRecDepth 100000 in
theorem falls_any (a0 a1 a2 a3 b0 b1 b2 b3 : Int) (w : World) :
    Calls Try.prog 48 #[.agg (w4 a0 a1 a2 a3), .agg (w4 b0 b1 b2 b3)] w fun e w' => e = .returned (.bool (fallB a0 a1 a2 a3 b0 b1 b2 b3)) ∧ Below w.heap.size w w' := by
  have EQ := fun w => eql4 w (An b0 a0) (An b1 a1) (An b2 a2) (An b3 a3) b0 b1 b2 b3
  go_enter Try.func48, Try.ntmps48
  go_wp2_with fail
  go_loopw [8] (fun v wr => Below w.heap.size w wr ∧ wr.heap[w.heap.size]? = some (.cells (w4 a0 a1 a2 a3) 53 (0, 0)) ∧ wr.heap[w.heap.size + 1]? = some (.cells (w4 b0 b1 b2 b3) 53 (0, 0)) ∧ (∃ X, wr.heap[w.heap.size + 1 + 1]? = some (.cells X 53 (0, 0)) ∧ ((v = .int .i64 0 ∧ X = w4 b0 b1 b2 b3) ∨ (v = .int .i64 1 ∧ X = w4 (An b0 a0) b1 b2 b3) ∨ (v = .int .i64 2 ∧ X = w4 (An b0 a0) (An b1 a1) b2 b3) ∨ (v = .int .i64 3 ∧ X = w4 (An b0 a0) (An b1 a1) (An b2 a2) b3) ∨ (v = .int .i64 4 ∧ X = w4 (An b0 a0) (An b1 a1) (An b2 a2) (An b3 a3)))))
    (fun v _ => 4 - (intOf v).toNat)
  case atStart =>
    refine ⟨Below.al (Below.al (Below.al (Below.refl _ _) _) _) _, ?_, ?_, _, ?_, .inl ⟨rfl, rfl⟩⟩
    · rw [Below.heap_alloc _ _ _ (by simp; omega), Below.heap_alloc _ _ _ (by simp)]; exact heap_alloc_last w _
    · rw [Below.heap_alloc _ _ _ (by simp)]; exact (by simpa using heap_alloc_last (w.alloc (.cells (w4 a0 a1 a2 a3) 53)) (.cells (w4 b0 b1 b2 b3) 53))
    · exact (by simpa using heap_alloc_last ((w.alloc (.cells (w4 a0 a1 a2 a3) 53)).alloc (.cells (w4 b0 b1 b2 b3) 53)) (.cells (w4 b0 b1 b2 b3) 53))
  case round =>
    obtain ⟨hb, h0, h1, X, h2, hX⟩ := hrel
    rcases hX with ⟨rfl, rfl⟩ | ⟨rfl, rfl⟩ | ⟨rfl, rfl⟩ | ⟨rfl, rfl⟩ | ⟨rfl, rfl⟩
    · have f1 : wr.cell? ⟨w.heap.size + 1 + 1, 0, none⟩ = some (.int .u8 b0) := by rw [cell_of_row wr _ _ _ _ _ h2]; rfl
      have f2 : wr.cell? ⟨w.heap.size, 0, none⟩ = some (.int .u8 a0) := by rw [cell_of_row wr _ _ _ _ _ h0]; rfl
      have f3 := frozen_of_row wr (w.heap.size + 1 + 1) 0 _ _ h2
      have H : Hid (wr.heap[w.heap.size]? = _ ∧ wr.heap[w.heap.size + 1]? = _ ∧ wr.heap[w.heap.size + 1 + 1]? = _) := ⟨h0, h1, h2⟩
      clear EQ h0 h1 h2
      go_wp2_with fail
      go_region
      go_wp2_with fail
      obtain ⟨h0, h1, h2⟩ := H.out
      exact ⟨⟨(hb.setCell (show w.heap.size ≤ _ by simp; omega) _).drew, (heap_setCell_other _ _ _ _ (by simp; omega)).trans h0, (heap_setCell_other _ _ _ _ (by simp)).trans h1, _, heap_setCell_same _ _ _ _ _ _ h2, .inr (.inl ⟨rfl, rfl⟩)⟩, by simp [intOf]⟩
    · have f1 : wr.cell? ⟨w.heap.size + 1 + 1, 1, none⟩ = some (.int .u8 b1) := by rw [cell_of_row wr _ _ _ _ _ h2]; rfl
      have f2 : wr.cell? ⟨w.heap.size, 1, none⟩ = some (.int .u8 a1) := by rw [cell_of_row wr _ _ _ _ _ h0]; rfl
      have f3 := frozen_of_row wr (w.heap.size + 1 + 1) 1 _ _ h2
      have H : Hid (wr.heap[w.heap.size]? = _ ∧ wr.heap[w.heap.size + 1]? = _ ∧ wr.heap[w.heap.size + 1 + 1]? = _) := ⟨h0, h1, h2⟩
      clear EQ h0 h1 h2
      go_wp2_with fail
      go_region
      go_wp2_with fail
      obtain ⟨h0, h1, h2⟩ := H.out
      exact ⟨⟨(hb.setCell (show w.heap.size ≤ _ by simp; omega) _).drew, (heap_setCell_other _ _ _ _ (by simp; omega)).trans h0, (heap_setCell_other _ _ _ _ (by simp)).trans h1, _, heap_setCell_same _ _ _ _ _ _ h2, .inr (.inr (.inl ⟨rfl, rfl⟩))⟩, by simp [intOf]⟩
    · have f1 : wr.cell? ⟨w.heap.size + 1 + 1, 2, none⟩ = some (.int .u8 b2) := by rw [cell_of_row wr _ _ _ _ _ h2]; rfl
      have f2 : wr.cell? ⟨w.heap.size, 2, none⟩ = some (.int .u8 a2) := by rw [cell_of_row wr _ _ _ _ _ h0]; rfl
      have f3 := frozen_of_row wr (w.heap.size + 1 + 1) 2 _ _ h2
      have H : Hid (wr.heap[w.heap.size]? = _ ∧ wr.heap[w.heap.size + 1]? = _ ∧ wr.heap[w.heap.size + 1 + 1]? = _) := ⟨h0, h1, h2⟩
      clear EQ h0 h1 h2
      go_wp2_with fail
      go_region
      go_wp2_with fail
      obtain ⟨h0, h1, h2⟩ := H.out
      exact ⟨⟨(hb.setCell (show w.heap.size ≤ _ by simp; omega) _).drew, (heap_setCell_other _ _ _ _ (by simp; omega)).trans h0, (heap_setCell_other _ _ _ _ (by simp)).trans h1, _, heap_setCell_same _ _ _ _ _ _ h2, .inr (.inr (.inr (.inl ⟨rfl, rfl⟩)))⟩, by simp [intOf]⟩
    · have f1 : wr.cell? ⟨w.heap.size + 1 + 1, 3, none⟩ = some (.int .u8 b3) := by rw [cell_of_row wr _ _ _ _ _ h2]; rfl
      have f2 : wr.cell? ⟨w.heap.size, 3, none⟩ = some (.int .u8 a3) := by rw [cell_of_row wr _ _ _ _ _ h0]; rfl
      have f3 := frozen_of_row wr (w.heap.size + 1 + 1) 3 _ _ h2
      have H : Hid (wr.heap[w.heap.size]? = _ ∧ wr.heap[w.heap.size + 1]? = _ ∧ wr.heap[w.heap.size + 1 + 1]? = _) := ⟨h0, h1, h2⟩
      clear EQ h0 h1 h2
      go_wp2_with fail
      go_region
      go_wp2_with fail
      obtain ⟨h0, h1, h2⟩ := H.out
      exact ⟨⟨(hb.setCell (show w.heap.size ≤ _ by simp; omega) _).drew, (heap_setCell_other _ _ _ _ (by simp; omega)).trans h0, (heap_setCell_other _ _ _ _ (by simp)).trans h1, _, heap_setCell_same _ _ _ _ _ _ h2, .inr (.inr (.inr (.inr (⟨rfl, rfl⟩))))⟩, by simp [intOf]⟩
    · have L1 := run_loadVar_row (P := Try.prog) wr _ 53 53 _ (0, 0) _ h2 Try.underlying53 rfl size32
      have L2 := run_loadVar_row (P := Try.prog) wr _ 53 53 _ (0, 0) _ h1 Try.underlying53 rfl size32
      clear h0 h1 h2
      go_wp2_with (first | refine wpList_load_by rfl 53 (.tmp 5) rfl _ _ rfl L1 ?_ | refine wpList_load_by rfl 53 (.tmp 3) rfl _ _ rfl L2 ?_)
      go_ret
      exact ⟨rfl, hb⟩
#print axioms falls_any
end Go.Proofs.Ytgpbmccjcjoijaa
