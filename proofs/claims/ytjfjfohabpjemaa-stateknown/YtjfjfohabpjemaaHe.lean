/-
  The walks of the machine's Boot.
-/
import Derived.Test.YtjfjfohabpjemaaHd
namespace Go.Proofs.Ytjfjfohabpjemaa
open Go.RowKit

set_option linter.unusedSimpArgs false in
set_option maxHeartbeats 4000000 in
set_option maxRecDepth 100000 in
theorem boot_no {w : World} {p : Nat} {a s : Int} (h : w.heap[p]? = some (.cells (maC a s) 57 (0, 0))) (hs : ¬ s = 0) : Calls Try.prog 11 #[pt p] w fun e w' => e = .returned (.tuple #[zeroF, .int .i64 4]) ∧ Below w.heap.size w w' := by
  have c1 : w.cell? ⟨p, 1, none⟩ = some (.int .u8 s) := by rw [cell_of_row w _ 1 _ _ _ h]; rfl
  have lp := lt_of_heap h
  clear h
  go_enter Try.func11, Try.ntmps11
  go_wp2_with fail
  exact bodyPost_ret (v := .tuple #[zeroF, .int .i64 4]) (by simp [results, Try.results11, go_sem]) rfl ⟨rfl, (by repeat (first | exact Below.refl _ _ | apply Below.drew | apply Below.al))⟩

set_option linter.unusedSimpArgs false in
set_option maxHeartbeats 4000000 in
set_option maxRecDepth 100000 in
theorem boot_ok {w : World} {p : Nat} {a : Int} (h : w.heap[p]? = some (.cells (maC a 0) 57 (0, 0))) (h0 : 0 ≤ a ∧ a < 256) : Calls Try.prog 11 #[pt p] w fun e w' => e = .returned (.tuple #[frV (1792 + a) 1 0 0 0 0 0 0 0 0 false, .int .i64 0]) ∧ w'.heap[p]? = some (.cells (maC a 127) 57 (0, 0)) ∧ Kp [p] w w' := by
  have BT : Hid (∀ W : World, W.heap[p]? = some (.cells (maC a 0) 57 (0, 0)) → Calls Try.prog 21 #[pt p] W fun e w' => e = .returned (frV (1792 + a) 1 0 0 0 0 0 0 0 0 false) ∧ Below W.heap.size W w') := fun W hW => beat_at hW h0 (by decide)
  have c1 : w.cell? ⟨p, 1, none⟩ = some (.int .u8 0) := by rw [cell_of_row w _ 1 _ _ _ h]; rfl
  have lp := lt_of_heap h
  clear h0
  go_enter Try.func11, Try.ntmps11
  go_wp2_with fail
  refine (BT.out _ (ext11 h)).mono ?_
  rintro e w1 ⟨rfl, hb⟩
  have B1 : Below w.heap.size w w1 := Below.andThen (by repeat (first | exact Below.refl _ _ | apply Below.drew | apply Below.al)) hb
  have hg : w1.heap[w.heap.size]? = some (.cells (frC 0 0 0 0 0 0 0 0 0 0 false) 36 (0, 0)) := (hb.block _ (by simp)).trans (heap_new _ _)
  have hp := blk11 B1 h
  have p1 : w1.cell? ⟨p, 1, none⟩ = some (.int .u8 0) := by rw [cell_of_row w1 _ 1 _ _ _ hp]; rfl
  have z1 := froz11 w1 p 1 _ _ hp
  have l1 := lt_of_heap hp
  have lw := lt_of_heap hg
  clear c1 BT hb
  have gs : (w1.setCell ⟨p, 1, none⟩ (.int .u8 127)).heap[w.heap.size]? = some (.cells (frC 0 0 0 0 0 0 0 0 0 0 false) 36 (0, 0)) := (Below.heap_setCell w1 ⟨p, 1, none⟩ _ _ (by show w.heap.size ≠ p; omega)).trans hg
  have ps : (w1.setCell ⟨p, 1, none⟩ (.int .u8 127)).heap[p]? = some (.cells (maC a 127) 57 (0, 0)) := heap_setCell_same _ _ _ _ _ _ hp
  have ks : Kp [p] w (w1.setCell ⟨p, 1, none⟩ (.int .u8 127)) := (Kp.of B1).set ⟨p, 1, none⟩ _ (.inl (by simp))
  have gA := ext11 (o := .cells (frC (1792 + a) 1 0 0 0 0 0 0 0 0 false) 36) gs
  have pA := ext11 (o := .cells (frC (1792 + a) 1 0 0 0 0 0 0 0 0 false) 36) ps
  have kA := ks.al (.cells (frC (1792 + a) 1 0 0 0 0 0 0 0 0 false) 36)
  clear gs ps ks hg hp B1
  go_wp2_with (refine wpList_store_row rfl 36 _ _ rfl w.heap.size (frC (1792 + a) 1 0 0 0 0 0 0 0 0 false) rfl rfl 36 _ gA infoF rfl (frC_one _ _ _ _ _ _ _ _ _ _ _) ?_)
  have hc := fun j => cell_of_row (((w1.setCell ⟨p, 1, none⟩ (.int .u8 127)).alloc (.cells (frC (1792 + a) 1 0 0 0 0 0 0 0 0 false) 36)).setRow w.heap.size (frC (1792 + a) 1 0 0 0 0 0 0 0 0 false)) w.heap.size j _ _ _ (setRow_heap _ _ _ _ _ _ gA)
  refine bodyPost_ret (v := .tuple #[frV (1792 + a) 1 0 0 0 0 0 0 0 0 false, .int .i64 0]) ?_ rfl ⟨rfl, ?_, kA.row _ _ (.inr (Nat.le_refl _))⟩
  · simp [results, Try.results11, go_sem, hc]
  · exact sh11 (by omega) pA
#print axioms boot_ok
end Go.Proofs.Ytjfjfohabpjemaa
