/-
  A row of bytes stays where another block is written.
  The walks of the document's fields, in forms with data.
  The walks of the document's fields, in forms with data.
  The walks of the document's fields, in forms with data.
  The walks of the document's fields, in forms with data.
  The walks of the document's fields, in forms with data.
-/
import Derived.Test.YtlnlejdjekbipaaQa
import Derived.Test.YtlnlejdjekbipaaSf4
namespace Go.Proofs.Ytlnlejdjekbipaa
open Go.RowKit

theorem row_set' {w : World} {a : Option Addr} {len : Nat} {zs : List Int} (h : Row w a len zs) (B : Nat) (cs : Array Value) (hB : ∀ b off, a = some ⟨b, off, none⟩ → b ≠ B) : Row (w.setRow B cs) a len zs :=
  ⟨h.size, h.oct, fun hp => by
    obtain ⟨b, off, e, hc⟩ := h.at_ hp
    exact ⟨b, off, e, fun i hi => by rw [World.cell?_of_block (w := w) (setRow_other _ _ _ _ (hB b off e))]; exact hc i hi⟩⟩

end Go.Proofs.Ytlnlejdjekbipaa
namespace Go.Proofs.Ytlnlejdjekbipaa
open Go.RowKit

set_option linter.unusedVariables false in
set_option linter.unusedSimpArgs false in
set_option maxHeartbeats 4000000 in
set_option maxRecDepth 100000 in
theorem fields_1_0 (k i s : Int) (z : Bool) (n : Int) (q t l c : Bool) (nn o b0 b1 b2 b3 b4 b5 b6 b7 : Int) (h4 : 0 ≤ b4 ∧ b4 < 256) (h5 : 0 ≤ b5 ∧ b5 < 256) (h6 : 0 ≤ b6 ∧ b6 < 256) (h7 : 0 ≤ b7 ∧ b7 < 256) (w : World) :
    Calls Try.prog 28 #[cmV k i s z n q none 0 0 t l c 0 0 0 0 o, arr8 b0 b1 b2 b3 b4 b5 b6 b7, .int .i64 1] w (FPost w (fieldsP ⟨k, i, s, z, n, q, [], t, l, c, 0, 0, 0, 0, o⟩ ⟨b0, b1, b2, b3, b4, b5, b6, b7⟩ 1)) := by
  clear h4 h5 h6 h7
  have hsl : ∀ W, (Instr.sliceAt 31 (.pointer (some ⟨w.heap.size + 1, 0, none⟩)) (some (.int .i64 4)) (some (.int .i64 4)) none).run Try.prog W = .ok (.slice (some ⟨w.heap.size + 1, 4, none⟩) 0 4) W := fun W => by kernel_rfl
  go_enter Try.func28, Try.ntmps28
  go_wp2_with fail
  exact bodyPost_ret (v := cmV k i s z 0 true none 0 0 false false false 0 0 0 0 0) (by simp [results, Try.results28, go_sem]) rfl ⟨_, _, rfl, row_nil _, (fun _ _ h => by cases h), (by repeat (first | exact Below.refl _ _ | apply Below.drew | apply Below.al))⟩

set_option linter.unusedVariables false in
set_option linter.unusedSimpArgs false in
set_option maxHeartbeats 4000000 in
set_option maxRecDepth 100000 in
theorem fields_1_1 (k i s : Int) (z : Bool) (n : Int) (q t l c : Bool) (nn o b0 b1 b2 b3 b4 b5 b6 b7 : Int) (h4 : 0 ≤ b4 ∧ b4 < 256) (h5 : 0 ≤ b5 ∧ b5 < 256) (h6 : 0 ≤ b6 ∧ b6 < 256) (h7 : 0 ≤ b7 ∧ b7 < 256) (w : World) :
    Calls Try.prog 28 #[cmV k i s z n q none 0 0 t l c 1 0 0 0 o, arr8 b0 b1 b2 b3 b4 b5 b6 b7, .int .i64 1] w (FPost w (fieldsP ⟨k, i, s, z, n, q, [], t, l, c, 1, 0, 0, 0, o⟩ ⟨b0, b1, b2, b3, b4, b5, b6, b7⟩ 1)) := by
  have hR : Row (((w.alloc (.cells (cmC k i s z n q none 0 0 t l c 1 0 0 0 o) 36)).alloc (.cells (ar8 b0 b1 b2 b3 b4 b5 b6 b7) 31)).alloc (.cells (cmC 0 0 0 false 0 false none 0 0 false false false 0 0 0 0 0) 36)) (some ⟨w.heap.size + 1, 4, none⟩) 1 ([b4, b5, b6, b7].take 1) := row_4 (((w.alloc (.cells (cmC k i s z n q none 0 0 t l c 1 0 0 0 o) 36)).alloc (.cells (ar8 b0 b1 b2 b3 b4 b5 b6 b7) 31)).alloc (.cells (cmC 0 0 0 false 0 false none 0 0 false false false 0 0 0 0 0) 36)) _ 3 _ _ _ _ _ _ _ _ _ h4 h5 h6 h7 (ext_al (heap_at _ _ _ (by simp)))
  clear h4 h5 h6 h7
  have hsl : ∀ W, (Instr.sliceAt 31 (.pointer (some ⟨w.heap.size + 1, 0, none⟩)) (some (.int .i64 4)) (some (.int .i64 5)) none).run Try.prog W = .ok (.slice (some ⟨w.heap.size + 1, 4, none⟩) 1 4) W := fun W => by kernel_rfl
  go_enter Try.func28, Try.ntmps28
  go_wp2_with (at_builtin; refine wpList_append_nil rfl _ _ rfl rfl _ _ _ _ rfl hR (by decide) ?_)
  intro a5 cap5 w5 h1' h2' hr5 h4' hb5
  have B5 : Below w.heap.size w w5 := (show Below w.heap.size w (((w.alloc (.cells (cmC k i s z n q none 0 0 t l c 1 0 0 0 o) 36)).alloc (.cells (ar8 b0 b1 b2 b3 b4 b5 b6 b7) 31)).alloc (.cells (cmC 0 0 0 false 0 false none 0 0 false false false 0 0 0 0 0) 36)) from (by repeat (first | exact Below.refl _ _ | apply Below.drew | apply Below.al))).trans (hb5.mono (by omega))
  have G5 : w5.heap[w.heap.size]? = some (.cells (cmC k i s z n q none 0 0 t l c 1 0 0 0 o) 36 (0, 0)) := (hb5.block _ (by omega)).trans (ext_al (ext_al (heap_new _ _)))
  have R5 : w5.heap[w.heap.size + 1 + 1]? = some (.cells (cmC 0 0 0 false 0 false none 0 0 false false false 0 0 0 0 0) 36 (0, 0)) := (hb5.block _ (by omega)).trans (heap_at _ _ _ (by simp))
  have g0 : w5.cell? ⟨w.heap.size, 0, none⟩ = some (.int .u8 k) := by rw [cell_of_row _ _ 0 _ _ _ G5]; rfl
  have g1 : w5.cell? ⟨w.heap.size, 1, none⟩ = some (.int .u16 i) := by rw [cell_of_row _ _ 1 _ _ _ G5]; rfl
  have g2 : w5.cell? ⟨w.heap.size, 2, none⟩ = some (.int .u8 s) := by rw [cell_of_row _ _ 2 _ _ _ G5]; rfl
  have g3 : w5.cell? ⟨w.heap.size, 3, none⟩ = some (.bool z) := by rw [cell_of_row _ _ 3 _ _ _ G5]; rfl
  have HR5 : Hid (Row (w5.setRow (w.heap.size + 1 + 1) (cmC k i s z 0 true a5 1 cap5 false false false 0 0 0 0 0)) a5 1 ([b4, b5, b6, b7].take 1)) := row_set' hr5 _ _ (fun b off e => by have h9 := (h4' b off e).1; omega)
  have HF5 : Hid (∀ b off, a5 = some ⟨b, off, none⟩ → w.heap.size ≤ b) := fun b off e => by have h9 := (h4' b off e).1; omega
  clear hr5 h4' hb5 G5 hR hsl h1' h2'
  go_wp2_with (refine wpList_store_by rfl 36 _ _ rfl _ _ rfl rfl (storeRC _ (w.heap.size + 1 + 1) (cmC 0 0 0 false 0 false none 0 0 false false false 0 0 0 0 0) k i s z 0 true a5 1 cap5 false false false 0 0 0 0 0 _ R5 rfl) ?_)
  have hc := fun j => cell_of_row _ (w.heap.size + 1 + 1) j _ _ _ (setRow_heap _ _ _ (cmC k i s z 0 true a5 1 cap5 false false false 0 0 0 0 0) _ _ R5)
  refine bodyPost_ret (v := cmV k i s z 0 true a5 1 cap5 false false false 0 0 0 0 0) ?_ rfl ⟨a5, cap5, rfl, HR5.out, HF5.out, below_setRow B5 (by omega) _⟩
  simp [results, Try.results28, go_sem, hc]

set_option linter.unusedVariables false in
set_option linter.unusedSimpArgs false in
set_option maxHeartbeats 4000000 in
set_option maxRecDepth 100000 in
theorem fields_1_2 (k i s : Int) (z : Bool) (n : Int) (q t l c : Bool) (nn o b0 b1 b2 b3 b4 b5 b6 b7 : Int) (h4 : 0 ≤ b4 ∧ b4 < 256) (h5 : 0 ≤ b5 ∧ b5 < 256) (h6 : 0 ≤ b6 ∧ b6 < 256) (h7 : 0 ≤ b7 ∧ b7 < 256) (w : World) :
    Calls Try.prog 28 #[cmV k i s z n q none 0 0 t l c 2 0 0 0 o, arr8 b0 b1 b2 b3 b4 b5 b6 b7, .int .i64 1] w (FPost w (fieldsP ⟨k, i, s, z, n, q, [], t, l, c, 2, 0, 0, 0, o⟩ ⟨b0, b1, b2, b3, b4, b5, b6, b7⟩ 1)) := by
  have hR : Row (((w.alloc (.cells (cmC k i s z n q none 0 0 t l c 2 0 0 0 o) 36)).alloc (.cells (ar8 b0 b1 b2 b3 b4 b5 b6 b7) 31)).alloc (.cells (cmC 0 0 0 false 0 false none 0 0 false false false 0 0 0 0 0) 36)) (some ⟨w.heap.size + 1, 4, none⟩) 2 ([b4, b5, b6, b7].take 2) := row_4 (((w.alloc (.cells (cmC k i s z n q none 0 0 t l c 2 0 0 0 o) 36)).alloc (.cells (ar8 b0 b1 b2 b3 b4 b5 b6 b7) 31)).alloc (.cells (cmC 0 0 0 false 0 false none 0 0 false false false 0 0 0 0 0) 36)) _ 2 _ _ _ _ _ _ _ _ _ h4 h5 h6 h7 (ext_al (heap_at _ _ _ (by simp)))
  clear h4 h5 h6 h7
  have hsl : ∀ W, (Instr.sliceAt 31 (.pointer (some ⟨w.heap.size + 1, 0, none⟩)) (some (.int .i64 4)) (some (.int .i64 6)) none).run Try.prog W = .ok (.slice (some ⟨w.heap.size + 1, 4, none⟩) 2 4) W := fun W => by kernel_rfl
  go_enter Try.func28, Try.ntmps28
  go_wp2_with (at_builtin; refine wpList_append_nil rfl _ _ rfl rfl _ _ _ _ rfl hR (by decide) ?_)
  intro a5 cap5 w5 h1' h2' hr5 h4' hb5
  have B5 : Below w.heap.size w w5 := (show Below w.heap.size w (((w.alloc (.cells (cmC k i s z n q none 0 0 t l c 2 0 0 0 o) 36)).alloc (.cells (ar8 b0 b1 b2 b3 b4 b5 b6 b7) 31)).alloc (.cells (cmC 0 0 0 false 0 false none 0 0 false false false 0 0 0 0 0) 36)) from (by repeat (first | exact Below.refl _ _ | apply Below.drew | apply Below.al))).trans (hb5.mono (by omega))
  have G5 : w5.heap[w.heap.size]? = some (.cells (cmC k i s z n q none 0 0 t l c 2 0 0 0 o) 36 (0, 0)) := (hb5.block _ (by omega)).trans (ext_al (ext_al (heap_new _ _)))
  have R5 : w5.heap[w.heap.size + 1 + 1]? = some (.cells (cmC 0 0 0 false 0 false none 0 0 false false false 0 0 0 0 0) 36 (0, 0)) := (hb5.block _ (by omega)).trans (heap_at _ _ _ (by simp))
  have g0 : w5.cell? ⟨w.heap.size, 0, none⟩ = some (.int .u8 k) := by rw [cell_of_row _ _ 0 _ _ _ G5]; rfl
  have g1 : w5.cell? ⟨w.heap.size, 1, none⟩ = some (.int .u16 i) := by rw [cell_of_row _ _ 1 _ _ _ G5]; rfl
  have g2 : w5.cell? ⟨w.heap.size, 2, none⟩ = some (.int .u8 s) := by rw [cell_of_row _ _ 2 _ _ _ G5]; rfl
  have g3 : w5.cell? ⟨w.heap.size, 3, none⟩ = some (.bool z) := by rw [cell_of_row _ _ 3 _ _ _ G5]; rfl
  have HR5 : Hid (Row (w5.setRow (w.heap.size + 1 + 1) (cmC k i s z 0 true a5 2 cap5 false false false 0 0 0 0 0)) a5 2 ([b4, b5, b6, b7].take 2)) := row_set' hr5 _ _ (fun b off e => by have h9 := (h4' b off e).1; omega)
  have HF5 : Hid (∀ b off, a5 = some ⟨b, off, none⟩ → w.heap.size ≤ b) := fun b off e => by have h9 := (h4' b off e).1; omega
  clear hr5 h4' hb5 G5 hR hsl h1' h2'
  go_wp2_with (refine wpList_store_by rfl 36 _ _ rfl _ _ rfl rfl (storeRC _ (w.heap.size + 1 + 1) (cmC 0 0 0 false 0 false none 0 0 false false false 0 0 0 0 0) k i s z 0 true a5 2 cap5 false false false 0 0 0 0 0 _ R5 rfl) ?_)
  have hc := fun j => cell_of_row _ (w.heap.size + 1 + 1) j _ _ _ (setRow_heap _ _ _ (cmC k i s z 0 true a5 2 cap5 false false false 0 0 0 0 0) _ _ R5)
  refine bodyPost_ret (v := cmV k i s z 0 true a5 2 cap5 false false false 0 0 0 0 0) ?_ rfl ⟨a5, cap5, rfl, HR5.out, HF5.out, below_setRow B5 (by omega) _⟩
  simp [results, Try.results28, go_sem, hc]

end Go.Proofs.Ytlnlejdjekbipaa
namespace Go.Proofs.Ytlnlejdjekbipaa
open Go.RowKit

set_option linter.unusedVariables false in
set_option linter.unusedSimpArgs false in
set_option maxHeartbeats 4000000 in
set_option maxRecDepth 100000 in
theorem fields_1_3 (k i s : Int) (z : Bool) (n : Int) (q t l c : Bool) (nn o b0 b1 b2 b3 b4 b5 b6 b7 : Int) (h4 : 0 ≤ b4 ∧ b4 < 256) (h5 : 0 ≤ b5 ∧ b5 < 256) (h6 : 0 ≤ b6 ∧ b6 < 256) (h7 : 0 ≤ b7 ∧ b7 < 256) (w : World) :
    Calls Try.prog 28 #[cmV k i s z n q none 0 0 t l c 3 0 0 0 o, arr8 b0 b1 b2 b3 b4 b5 b6 b7, .int .i64 1] w (FPost w (fieldsP ⟨k, i, s, z, n, q, [], t, l, c, 3, 0, 0, 0, o⟩ ⟨b0, b1, b2, b3, b4, b5, b6, b7⟩ 1)) := by
  have hR : Row (((w.alloc (.cells (cmC k i s z n q none 0 0 t l c 3 0 0 0 o) 36)).alloc (.cells (ar8 b0 b1 b2 b3 b4 b5 b6 b7) 31)).alloc (.cells (cmC 0 0 0 false 0 false none 0 0 false false false 0 0 0 0 0) 36)) (some ⟨w.heap.size + 1, 4, none⟩) 3 ([b4, b5, b6, b7].take 3) := row_4 (((w.alloc (.cells (cmC k i s z n q none 0 0 t l c 3 0 0 0 o) 36)).alloc (.cells (ar8 b0 b1 b2 b3 b4 b5 b6 b7) 31)).alloc (.cells (cmC 0 0 0 false 0 false none 0 0 false false false 0 0 0 0 0) 36)) _ 1 _ _ _ _ _ _ _ _ _ h4 h5 h6 h7 (ext_al (heap_at _ _ _ (by simp)))
  clear h4 h5 h6 h7
  have hsl : ∀ W, (Instr.sliceAt 31 (.pointer (some ⟨w.heap.size + 1, 0, none⟩)) (some (.int .i64 4)) (some (.int .i64 7)) none).run Try.prog W = .ok (.slice (some ⟨w.heap.size + 1, 4, none⟩) 3 4) W := fun W => by kernel_rfl
  go_enter Try.func28, Try.ntmps28
  go_wp2_with (at_builtin; refine wpList_append_nil rfl _ _ rfl rfl _ _ _ _ rfl hR (by decide) ?_)
  intro a5 cap5 w5 h1' h2' hr5 h4' hb5
  have B5 : Below w.heap.size w w5 := (show Below w.heap.size w (((w.alloc (.cells (cmC k i s z n q none 0 0 t l c 3 0 0 0 o) 36)).alloc (.cells (ar8 b0 b1 b2 b3 b4 b5 b6 b7) 31)).alloc (.cells (cmC 0 0 0 false 0 false none 0 0 false false false 0 0 0 0 0) 36)) from (by repeat (first | exact Below.refl _ _ | apply Below.drew | apply Below.al))).trans (hb5.mono (by omega))
  have G5 : w5.heap[w.heap.size]? = some (.cells (cmC k i s z n q none 0 0 t l c 3 0 0 0 o) 36 (0, 0)) := (hb5.block _ (by omega)).trans (ext_al (ext_al (heap_new _ _)))
  have R5 : w5.heap[w.heap.size + 1 + 1]? = some (.cells (cmC 0 0 0 false 0 false none 0 0 false false false 0 0 0 0 0) 36 (0, 0)) := (hb5.block _ (by omega)).trans (heap_at _ _ _ (by simp))
  have g0 : w5.cell? ⟨w.heap.size, 0, none⟩ = some (.int .u8 k) := by rw [cell_of_row _ _ 0 _ _ _ G5]; rfl
  have g1 : w5.cell? ⟨w.heap.size, 1, none⟩ = some (.int .u16 i) := by rw [cell_of_row _ _ 1 _ _ _ G5]; rfl
  have g2 : w5.cell? ⟨w.heap.size, 2, none⟩ = some (.int .u8 s) := by rw [cell_of_row _ _ 2 _ _ _ G5]; rfl
  have g3 : w5.cell? ⟨w.heap.size, 3, none⟩ = some (.bool z) := by rw [cell_of_row _ _ 3 _ _ _ G5]; rfl
  have HR5 : Hid (Row (w5.setRow (w.heap.size + 1 + 1) (cmC k i s z 0 true a5 3 cap5 false false false 0 0 0 0 0)) a5 3 ([b4, b5, b6, b7].take 3)) := row_set' hr5 _ _ (fun b off e => by have h9 := (h4' b off e).1; omega)
  have HF5 : Hid (∀ b off, a5 = some ⟨b, off, none⟩ → w.heap.size ≤ b) := fun b off e => by have h9 := (h4' b off e).1; omega
  clear hr5 h4' hb5 G5 hR hsl h1' h2'
  go_wp2_with (refine wpList_store_by rfl 36 _ _ rfl _ _ rfl rfl (storeRC _ (w.heap.size + 1 + 1) (cmC 0 0 0 false 0 false none 0 0 false false false 0 0 0 0 0) k i s z 0 true a5 3 cap5 false false false 0 0 0 0 0 _ R5 rfl) ?_)
  have hc := fun j => cell_of_row _ (w.heap.size + 1 + 1) j _ _ _ (setRow_heap _ _ _ (cmC k i s z 0 true a5 3 cap5 false false false 0 0 0 0 0) _ _ R5)
  refine bodyPost_ret (v := cmV k i s z 0 true a5 3 cap5 false false false 0 0 0 0 0) ?_ rfl ⟨a5, cap5, rfl, HR5.out, HF5.out, below_setRow B5 (by omega) _⟩
  simp [results, Try.results28, go_sem, hc]

set_option linter.unusedVariables false in
set_option linter.unusedSimpArgs false in
set_option maxHeartbeats 4000000 in
set_option maxRecDepth 100000 in
theorem fields_1_4 (k i s : Int) (z : Bool) (n : Int) (q t l c : Bool) (nn o b0 b1 b2 b3 b4 b5 b6 b7 : Int) (h4 : 0 ≤ b4 ∧ b4 < 256) (h5 : 0 ≤ b5 ∧ b5 < 256) (h6 : 0 ≤ b6 ∧ b6 < 256) (h7 : 0 ≤ b7 ∧ b7 < 256) (w : World) :
    Calls Try.prog 28 #[cmV k i s z n q none 0 0 t l c 4 0 0 0 o, arr8 b0 b1 b2 b3 b4 b5 b6 b7, .int .i64 1] w (FPost w (fieldsP ⟨k, i, s, z, n, q, [], t, l, c, 4, 0, 0, 0, o⟩ ⟨b0, b1, b2, b3, b4, b5, b6, b7⟩ 1)) := by
  have hR : Row (((w.alloc (.cells (cmC k i s z n q none 0 0 t l c 4 0 0 0 o) 36)).alloc (.cells (ar8 b0 b1 b2 b3 b4 b5 b6 b7) 31)).alloc (.cells (cmC 0 0 0 false 0 false none 0 0 false false false 0 0 0 0 0) 36)) (some ⟨w.heap.size + 1, 4, none⟩) 4 ([b4, b5, b6, b7].take 4) := row_4 (((w.alloc (.cells (cmC k i s z n q none 0 0 t l c 4 0 0 0 o) 36)).alloc (.cells (ar8 b0 b1 b2 b3 b4 b5 b6 b7) 31)).alloc (.cells (cmC 0 0 0 false 0 false none 0 0 false false false 0 0 0 0 0) 36)) _ 0 _ _ _ _ _ _ _ _ _ h4 h5 h6 h7 (ext_al (heap_at _ _ _ (by simp)))
  clear h4 h5 h6 h7
  have hsl : ∀ W, (Instr.sliceAt 31 (.pointer (some ⟨w.heap.size + 1, 0, none⟩)) (some (.int .i64 4)) (some (.int .i64 8)) none).run Try.prog W = .ok (.slice (some ⟨w.heap.size + 1, 4, none⟩) 4 4) W := fun W => by kernel_rfl
  go_enter Try.func28, Try.ntmps28
  go_wp2_with (at_builtin; refine wpList_append_nil rfl _ _ rfl rfl _ _ _ _ rfl hR (by decide) ?_)
  intro a5 cap5 w5 h1' h2' hr5 h4' hb5
  have B5 : Below w.heap.size w w5 := (show Below w.heap.size w (((w.alloc (.cells (cmC k i s z n q none 0 0 t l c 4 0 0 0 o) 36)).alloc (.cells (ar8 b0 b1 b2 b3 b4 b5 b6 b7) 31)).alloc (.cells (cmC 0 0 0 false 0 false none 0 0 false false false 0 0 0 0 0) 36)) from (by repeat (first | exact Below.refl _ _ | apply Below.drew | apply Below.al))).trans (hb5.mono (by omega))
  have G5 : w5.heap[w.heap.size]? = some (.cells (cmC k i s z n q none 0 0 t l c 4 0 0 0 o) 36 (0, 0)) := (hb5.block _ (by omega)).trans (ext_al (ext_al (heap_new _ _)))
  have R5 : w5.heap[w.heap.size + 1 + 1]? = some (.cells (cmC 0 0 0 false 0 false none 0 0 false false false 0 0 0 0 0) 36 (0, 0)) := (hb5.block _ (by omega)).trans (heap_at _ _ _ (by simp))
  have g0 : w5.cell? ⟨w.heap.size, 0, none⟩ = some (.int .u8 k) := by rw [cell_of_row _ _ 0 _ _ _ G5]; rfl
  have g1 : w5.cell? ⟨w.heap.size, 1, none⟩ = some (.int .u16 i) := by rw [cell_of_row _ _ 1 _ _ _ G5]; rfl
  have g2 : w5.cell? ⟨w.heap.size, 2, none⟩ = some (.int .u8 s) := by rw [cell_of_row _ _ 2 _ _ _ G5]; rfl
  have g3 : w5.cell? ⟨w.heap.size, 3, none⟩ = some (.bool z) := by rw [cell_of_row _ _ 3 _ _ _ G5]; rfl
  have HR5 : Hid (Row (w5.setRow (w.heap.size + 1 + 1) (cmC k i s z 0 true a5 4 cap5 false false false 0 0 0 0 0)) a5 4 ([b4, b5, b6, b7].take 4)) := row_set' hr5 _ _ (fun b off e => by have h9 := (h4' b off e).1; omega)
  have HF5 : Hid (∀ b off, a5 = some ⟨b, off, none⟩ → w.heap.size ≤ b) := fun b off e => by have h9 := (h4' b off e).1; omega
  clear hr5 h4' hb5 G5 hR hsl h1' h2'
  go_wp2_with (refine wpList_store_by rfl 36 _ _ rfl _ _ rfl rfl (storeRC _ (w.heap.size + 1 + 1) (cmC 0 0 0 false 0 false none 0 0 false false false 0 0 0 0 0) k i s z 0 true a5 4 cap5 false false false 0 0 0 0 0 _ R5 rfl) ?_)
  have hc := fun j => cell_of_row _ (w.heap.size + 1 + 1) j _ _ _ (setRow_heap _ _ _ (cmC k i s z 0 true a5 4 cap5 false false false 0 0 0 0 0) _ _ R5)
  refine bodyPost_ret (v := cmV k i s z 0 true a5 4 cap5 false false false 0 0 0 0 0) ?_ rfl ⟨a5, cap5, rfl, HR5.out, HF5.out, below_setRow B5 (by omega) _⟩
  simp [results, Try.results28, go_sem, hc]

end Go.Proofs.Ytlnlejdjekbipaa
namespace Go.Proofs.Ytlnlejdjekbipaa
open Go.RowKit

set_option linter.unusedVariables false in
set_option linter.unusedSimpArgs false in
set_option maxHeartbeats 4000000 in
set_option maxRecDepth 100000 in
theorem fields_3_0 (k i s : Int) (z : Bool) (n : Int) (q t l c : Bool) (nn o b0 b1 b2 b3 b4 b5 b6 b7 : Int) (h1 : 0 ≤ b1 ∧ b1 < 256) (h2 : 0 ≤ b2 ∧ b2 < 256) (h3 : 0 ≤ b3 ∧ b3 < 256) (h4 : 0 ≤ b4 ∧ b4 < 256) (h5 : 0 ≤ b5 ∧ b5 < 256) (h6 : 0 ≤ b6 ∧ b6 < 256) (h7 : 0 ≤ b7 ∧ b7 < 256) (w : World) :
    Calls Try.prog 28 #[cmV k i s z n q none 0 0 t l c 0 0 0 0 o, arr8 b0 b1 b2 b3 b4 b5 b6 b7, .int .i64 3] w (FPost w (fieldsP ⟨k, i, s, z, n, q, [], t, l, c, 0, 0, 0, 0, o⟩ ⟨b0, b1, b2, b3, b4, b5, b6, b7⟩ 3)) := by
  clear h1 h2 h3 h4 h5 h6 h7
  have hsl : ∀ W, (Instr.sliceAt 31 (.pointer (some ⟨w.heap.size + 1, 0, none⟩)) (some (.int .i64 1)) (some (.int .i64 1)) none).run Try.prog W = .ok (.slice (some ⟨w.heap.size + 1, 1, none⟩) 0 7) W := fun W => by kernel_rfl
  go_enter Try.func28, Try.ntmps28
  go_wp2_with fail
  exact bodyPost_ret (v := cmV k 0 0 false 0 false none 0 0 t l false 0 0 0 0 0) (by simp [results, Try.results28, go_sem]) rfl ⟨_, _, rfl, row_nil _, (fun _ _ h => by cases h), (by repeat (first | exact Below.refl _ _ | apply Below.drew | apply Below.al))⟩

set_option linter.unusedVariables false in
set_option linter.unusedSimpArgs false in
set_option maxHeartbeats 4000000 in
set_option maxRecDepth 100000 in
theorem fields_3_1 (k i s : Int) (z : Bool) (n : Int) (q t l c : Bool) (nn o b0 b1 b2 b3 b4 b5 b6 b7 : Int) (h1 : 0 ≤ b1 ∧ b1 < 256) (h2 : 0 ≤ b2 ∧ b2 < 256) (h3 : 0 ≤ b3 ∧ b3 < 256) (h4 : 0 ≤ b4 ∧ b4 < 256) (h5 : 0 ≤ b5 ∧ b5 < 256) (h6 : 0 ≤ b6 ∧ b6 < 256) (h7 : 0 ≤ b7 ∧ b7 < 256) (w : World) :
    Calls Try.prog 28 #[cmV k i s z n q none 0 0 t l c 1 0 0 0 o, arr8 b0 b1 b2 b3 b4 b5 b6 b7, .int .i64 3] w (FPost w (fieldsP ⟨k, i, s, z, n, q, [], t, l, c, 1, 0, 0, 0, o⟩ ⟨b0, b1, b2, b3, b4, b5, b6, b7⟩ 3)) := by
  have hR : Row (((w.alloc (.cells (cmC k i s z n q none 0 0 t l c 1 0 0 0 o) 36)).alloc (.cells (ar8 b0 b1 b2 b3 b4 b5 b6 b7) 31)).alloc (.cells (cmC 0 0 0 false 0 false none 0 0 false false false 0 0 0 0 0) 36)) (some ⟨w.heap.size + 1, 1, none⟩) 1 ([b1, b2, b3, b4, b5, b6, b7].take 1) := row_1 (((w.alloc (.cells (cmC k i s z n q none 0 0 t l c 1 0 0 0 o) 36)).alloc (.cells (ar8 b0 b1 b2 b3 b4 b5 b6 b7) 31)).alloc (.cells (cmC 0 0 0 false 0 false none 0 0 false false false 0 0 0 0 0) 36)) _ 6 _ _ _ _ _ _ _ _ _ h1 h2 h3 h4 h5 h6 h7 (ext_al (heap_at _ _ _ (by simp)))
  clear h1 h2 h3 h4 h5 h6 h7
  have hsl : ∀ W, (Instr.sliceAt 31 (.pointer (some ⟨w.heap.size + 1, 0, none⟩)) (some (.int .i64 1)) (some (.int .i64 2)) none).run Try.prog W = .ok (.slice (some ⟨w.heap.size + 1, 1, none⟩) 1 7) W := fun W => by kernel_rfl
  go_enter Try.func28, Try.ntmps28
  go_wp2_with (at_builtin; refine wpList_append_nil rfl _ _ rfl rfl _ _ _ _ rfl hR (by decide) ?_)
  intro a5 cap5 w5 h1' h2' hr5 h4' hb5
  have B5 : Below w.heap.size w w5 := (show Below w.heap.size w (((w.alloc (.cells (cmC k i s z n q none 0 0 t l c 1 0 0 0 o) 36)).alloc (.cells (ar8 b0 b1 b2 b3 b4 b5 b6 b7) 31)).alloc (.cells (cmC 0 0 0 false 0 false none 0 0 false false false 0 0 0 0 0) 36)) from (by repeat (first | exact Below.refl _ _ | apply Below.drew | apply Below.al))).trans (hb5.mono (by omega))
  have G5 : w5.heap[w.heap.size]? = some (.cells (cmC k i s z n q none 0 0 t l c 1 0 0 0 o) 36 (0, 0)) := (hb5.block _ (by omega)).trans (ext_al (ext_al (heap_new _ _)))
  have R5 : w5.heap[w.heap.size + 1 + 1]? = some (.cells (cmC 0 0 0 false 0 false none 0 0 false false false 0 0 0 0 0) 36 (0, 0)) := (hb5.block _ (by omega)).trans (heap_at _ _ _ (by simp))
  have g0 : w5.cell? ⟨w.heap.size, 0, none⟩ = some (.int .u8 k) := by rw [cell_of_row _ _ 0 _ _ _ G5]; rfl
  have g7 : w5.cell? ⟨w.heap.size, 7, none⟩ = some (.bool t) := by rw [cell_of_row _ _ 7 _ _ _ G5]; rfl
  have g8 : w5.cell? ⟨w.heap.size, 8, none⟩ = some (.bool l) := by rw [cell_of_row _ _ 8 _ _ _ G5]; rfl
  have HR5 : Hid (Row (w5.setRow (w.heap.size + 1 + 1) (cmC k 0 0 false 0 false a5 1 cap5 t l false 0 0 0 0 0)) a5 1 ([b1, b2, b3, b4, b5, b6, b7].take 1)) := row_set' hr5 _ _ (fun b off e => by have h9 := (h4' b off e).1; omega)
  have HF5 : Hid (∀ b off, a5 = some ⟨b, off, none⟩ → w.heap.size ≤ b) := fun b off e => by have h9 := (h4' b off e).1; omega
  clear hr5 h4' hb5 G5 hR hsl h1' h2'
  go_wp2_with (refine wpList_store_by rfl 36 _ _ rfl _ _ rfl rfl (storeRC _ (w.heap.size + 1 + 1) (cmC 0 0 0 false 0 false none 0 0 false false false 0 0 0 0 0) k 0 0 false 0 false a5 1 cap5 t l false 0 0 0 0 0 _ R5 rfl) ?_)
  have hc := fun j => cell_of_row _ (w.heap.size + 1 + 1) j _ _ _ (setRow_heap _ _ _ (cmC k 0 0 false 0 false a5 1 cap5 t l false 0 0 0 0 0) _ _ R5)
  refine bodyPost_ret (v := cmV k 0 0 false 0 false a5 1 cap5 t l false 0 0 0 0 0) ?_ rfl ⟨a5, cap5, rfl, HR5.out, HF5.out, below_setRow B5 (by omega) _⟩
  simp [results, Try.results28, go_sem, hc]

set_option linter.unusedVariables false in
set_option linter.unusedSimpArgs false in
set_option maxHeartbeats 4000000 in
set_option maxRecDepth 100000 in
theorem fields_3_2 (k i s : Int) (z : Bool) (n : Int) (q t l c : Bool) (nn o b0 b1 b2 b3 b4 b5 b6 b7 : Int) (h1 : 0 ≤ b1 ∧ b1 < 256) (h2 : 0 ≤ b2 ∧ b2 < 256) (h3 : 0 ≤ b3 ∧ b3 < 256) (h4 : 0 ≤ b4 ∧ b4 < 256) (h5 : 0 ≤ b5 ∧ b5 < 256) (h6 : 0 ≤ b6 ∧ b6 < 256) (h7 : 0 ≤ b7 ∧ b7 < 256) (w : World) :
    Calls Try.prog 28 #[cmV k i s z n q none 0 0 t l c 2 0 0 0 o, arr8 b0 b1 b2 b3 b4 b5 b6 b7, .int .i64 3] w (FPost w (fieldsP ⟨k, i, s, z, n, q, [], t, l, c, 2, 0, 0, 0, o⟩ ⟨b0, b1, b2, b3, b4, b5, b6, b7⟩ 3)) := by
  have hR : Row (((w.alloc (.cells (cmC k i s z n q none 0 0 t l c 2 0 0 0 o) 36)).alloc (.cells (ar8 b0 b1 b2 b3 b4 b5 b6 b7) 31)).alloc (.cells (cmC 0 0 0 false 0 false none 0 0 false false false 0 0 0 0 0) 36)) (some ⟨w.heap.size + 1, 1, none⟩) 2 ([b1, b2, b3, b4, b5, b6, b7].take 2) := row_1 (((w.alloc (.cells (cmC k i s z n q none 0 0 t l c 2 0 0 0 o) 36)).alloc (.cells (ar8 b0 b1 b2 b3 b4 b5 b6 b7) 31)).alloc (.cells (cmC 0 0 0 false 0 false none 0 0 false false false 0 0 0 0 0) 36)) _ 5 _ _ _ _ _ _ _ _ _ h1 h2 h3 h4 h5 h6 h7 (ext_al (heap_at _ _ _ (by simp)))
  clear h1 h2 h3 h4 h5 h6 h7
  have hsl : ∀ W, (Instr.sliceAt 31 (.pointer (some ⟨w.heap.size + 1, 0, none⟩)) (some (.int .i64 1)) (some (.int .i64 3)) none).run Try.prog W = .ok (.slice (some ⟨w.heap.size + 1, 1, none⟩) 2 7) W := fun W => by kernel_rfl
  go_enter Try.func28, Try.ntmps28
  go_wp2_with (at_builtin; refine wpList_append_nil rfl _ _ rfl rfl _ _ _ _ rfl hR (by decide) ?_)
  intro a5 cap5 w5 h1' h2' hr5 h4' hb5
  have B5 : Below w.heap.size w w5 := (show Below w.heap.size w (((w.alloc (.cells (cmC k i s z n q none 0 0 t l c 2 0 0 0 o) 36)).alloc (.cells (ar8 b0 b1 b2 b3 b4 b5 b6 b7) 31)).alloc (.cells (cmC 0 0 0 false 0 false none 0 0 false false false 0 0 0 0 0) 36)) from (by repeat (first | exact Below.refl _ _ | apply Below.drew | apply Below.al))).trans (hb5.mono (by omega))
  have G5 : w5.heap[w.heap.size]? = some (.cells (cmC k i s z n q none 0 0 t l c 2 0 0 0 o) 36 (0, 0)) := (hb5.block _ (by omega)).trans (ext_al (ext_al (heap_new _ _)))
  have R5 : w5.heap[w.heap.size + 1 + 1]? = some (.cells (cmC 0 0 0 false 0 false none 0 0 false false false 0 0 0 0 0) 36 (0, 0)) := (hb5.block _ (by omega)).trans (heap_at _ _ _ (by simp))
  have g0 : w5.cell? ⟨w.heap.size, 0, none⟩ = some (.int .u8 k) := by rw [cell_of_row _ _ 0 _ _ _ G5]; rfl
  have g7 : w5.cell? ⟨w.heap.size, 7, none⟩ = some (.bool t) := by rw [cell_of_row _ _ 7 _ _ _ G5]; rfl
  have g8 : w5.cell? ⟨w.heap.size, 8, none⟩ = some (.bool l) := by rw [cell_of_row _ _ 8 _ _ _ G5]; rfl
  have HR5 : Hid (Row (w5.setRow (w.heap.size + 1 + 1) (cmC k 0 0 false 0 false a5 2 cap5 t l false 0 0 0 0 0)) a5 2 ([b1, b2, b3, b4, b5, b6, b7].take 2)) := row_set' hr5 _ _ (fun b off e => by have h9 := (h4' b off e).1; omega)
  have HF5 : Hid (∀ b off, a5 = some ⟨b, off, none⟩ → w.heap.size ≤ b) := fun b off e => by have h9 := (h4' b off e).1; omega
  clear hr5 h4' hb5 G5 hR hsl h1' h2'
  go_wp2_with (refine wpList_store_by rfl 36 _ _ rfl _ _ rfl rfl (storeRC _ (w.heap.size + 1 + 1) (cmC 0 0 0 false 0 false none 0 0 false false false 0 0 0 0 0) k 0 0 false 0 false a5 2 cap5 t l false 0 0 0 0 0 _ R5 rfl) ?_)
  have hc := fun j => cell_of_row _ (w.heap.size + 1 + 1) j _ _ _ (setRow_heap _ _ _ (cmC k 0 0 false 0 false a5 2 cap5 t l false 0 0 0 0 0) _ _ R5)
  refine bodyPost_ret (v := cmV k 0 0 false 0 false a5 2 cap5 t l false 0 0 0 0 0) ?_ rfl ⟨a5, cap5, rfl, HR5.out, HF5.out, below_setRow B5 (by omega) _⟩
  simp [results, Try.results28, go_sem, hc]

end Go.Proofs.Ytlnlejdjekbipaa
namespace Go.Proofs.Ytlnlejdjekbipaa
open Go.RowKit

set_option linter.unusedVariables false in
set_option linter.unusedSimpArgs false in
set_option maxHeartbeats 4000000 in
set_option maxRecDepth 100000 in
theorem fields_3_3 (k i s : Int) (z : Bool) (n : Int) (q t l c : Bool) (nn o b0 b1 b2 b3 b4 b5 b6 b7 : Int) (h1 : 0 ≤ b1 ∧ b1 < 256) (h2 : 0 ≤ b2 ∧ b2 < 256) (h3 : 0 ≤ b3 ∧ b3 < 256) (h4 : 0 ≤ b4 ∧ b4 < 256) (h5 : 0 ≤ b5 ∧ b5 < 256) (h6 : 0 ≤ b6 ∧ b6 < 256) (h7 : 0 ≤ b7 ∧ b7 < 256) (w : World) :
    Calls Try.prog 28 #[cmV k i s z n q none 0 0 t l c 3 0 0 0 o, arr8 b0 b1 b2 b3 b4 b5 b6 b7, .int .i64 3] w (FPost w (fieldsP ⟨k, i, s, z, n, q, [], t, l, c, 3, 0, 0, 0, o⟩ ⟨b0, b1, b2, b3, b4, b5, b6, b7⟩ 3)) := by
  have hR : Row (((w.alloc (.cells (cmC k i s z n q none 0 0 t l c 3 0 0 0 o) 36)).alloc (.cells (ar8 b0 b1 b2 b3 b4 b5 b6 b7) 31)).alloc (.cells (cmC 0 0 0 false 0 false none 0 0 false false false 0 0 0 0 0) 36)) (some ⟨w.heap.size + 1, 1, none⟩) 3 ([b1, b2, b3, b4, b5, b6, b7].take 3) := row_1 (((w.alloc (.cells (cmC k i s z n q none 0 0 t l c 3 0 0 0 o) 36)).alloc (.cells (ar8 b0 b1 b2 b3 b4 b5 b6 b7) 31)).alloc (.cells (cmC 0 0 0 false 0 false none 0 0 false false false 0 0 0 0 0) 36)) _ 4 _ _ _ _ _ _ _ _ _ h1 h2 h3 h4 h5 h6 h7 (ext_al (heap_at _ _ _ (by simp)))
  clear h1 h2 h3 h4 h5 h6 h7
  have hsl : ∀ W, (Instr.sliceAt 31 (.pointer (some ⟨w.heap.size + 1, 0, none⟩)) (some (.int .i64 1)) (some (.int .i64 4)) none).run Try.prog W = .ok (.slice (some ⟨w.heap.size + 1, 1, none⟩) 3 7) W := fun W => by kernel_rfl
  go_enter Try.func28, Try.ntmps28
  go_wp2_with (at_builtin; refine wpList_append_nil rfl _ _ rfl rfl _ _ _ _ rfl hR (by decide) ?_)
  intro a5 cap5 w5 h1' h2' hr5 h4' hb5
  have B5 : Below w.heap.size w w5 := (show Below w.heap.size w (((w.alloc (.cells (cmC k i s z n q none 0 0 t l c 3 0 0 0 o) 36)).alloc (.cells (ar8 b0 b1 b2 b3 b4 b5 b6 b7) 31)).alloc (.cells (cmC 0 0 0 false 0 false none 0 0 false false false 0 0 0 0 0) 36)) from (by repeat (first | exact Below.refl _ _ | apply Below.drew | apply Below.al))).trans (hb5.mono (by omega))
  have G5 : w5.heap[w.heap.size]? = some (.cells (cmC k i s z n q none 0 0 t l c 3 0 0 0 o) 36 (0, 0)) := (hb5.block _ (by omega)).trans (ext_al (ext_al (heap_new _ _)))
  have R5 : w5.heap[w.heap.size + 1 + 1]? = some (.cells (cmC 0 0 0 false 0 false none 0 0 false false false 0 0 0 0 0) 36 (0, 0)) := (hb5.block _ (by omega)).trans (heap_at _ _ _ (by simp))
  have g0 : w5.cell? ⟨w.heap.size, 0, none⟩ = some (.int .u8 k) := by rw [cell_of_row _ _ 0 _ _ _ G5]; rfl
  have g7 : w5.cell? ⟨w.heap.size, 7, none⟩ = some (.bool t) := by rw [cell_of_row _ _ 7 _ _ _ G5]; rfl
  have g8 : w5.cell? ⟨w.heap.size, 8, none⟩ = some (.bool l) := by rw [cell_of_row _ _ 8 _ _ _ G5]; rfl
  have HR5 : Hid (Row (w5.setRow (w.heap.size + 1 + 1) (cmC k 0 0 false 0 false a5 3 cap5 t l false 0 0 0 0 0)) a5 3 ([b1, b2, b3, b4, b5, b6, b7].take 3)) := row_set' hr5 _ _ (fun b off e => by have h9 := (h4' b off e).1; omega)
  have HF5 : Hid (∀ b off, a5 = some ⟨b, off, none⟩ → w.heap.size ≤ b) := fun b off e => by have h9 := (h4' b off e).1; omega
  clear hr5 h4' hb5 G5 hR hsl h1' h2'
  go_wp2_with (refine wpList_store_by rfl 36 _ _ rfl _ _ rfl rfl (storeRC _ (w.heap.size + 1 + 1) (cmC 0 0 0 false 0 false none 0 0 false false false 0 0 0 0 0) k 0 0 false 0 false a5 3 cap5 t l false 0 0 0 0 0 _ R5 rfl) ?_)
  have hc := fun j => cell_of_row _ (w.heap.size + 1 + 1) j _ _ _ (setRow_heap _ _ _ (cmC k 0 0 false 0 false a5 3 cap5 t l false 0 0 0 0 0) _ _ R5)
  refine bodyPost_ret (v := cmV k 0 0 false 0 false a5 3 cap5 t l false 0 0 0 0 0) ?_ rfl ⟨a5, cap5, rfl, HR5.out, HF5.out, below_setRow B5 (by omega) _⟩
  simp [results, Try.results28, go_sem, hc]

set_option linter.unusedVariables false in
set_option linter.unusedSimpArgs false in
set_option maxHeartbeats 4000000 in
set_option maxRecDepth 100000 in
theorem fields_3_4 (k i s : Int) (z : Bool) (n : Int) (q t l c : Bool) (nn o b0 b1 b2 b3 b4 b5 b6 b7 : Int) (h1 : 0 ≤ b1 ∧ b1 < 256) (h2 : 0 ≤ b2 ∧ b2 < 256) (h3 : 0 ≤ b3 ∧ b3 < 256) (h4 : 0 ≤ b4 ∧ b4 < 256) (h5 : 0 ≤ b5 ∧ b5 < 256) (h6 : 0 ≤ b6 ∧ b6 < 256) (h7 : 0 ≤ b7 ∧ b7 < 256) (w : World) :
    Calls Try.prog 28 #[cmV k i s z n q none 0 0 t l c 4 0 0 0 o, arr8 b0 b1 b2 b3 b4 b5 b6 b7, .int .i64 3] w (FPost w (fieldsP ⟨k, i, s, z, n, q, [], t, l, c, 4, 0, 0, 0, o⟩ ⟨b0, b1, b2, b3, b4, b5, b6, b7⟩ 3)) := by
  have hR : Row (((w.alloc (.cells (cmC k i s z n q none 0 0 t l c 4 0 0 0 o) 36)).alloc (.cells (ar8 b0 b1 b2 b3 b4 b5 b6 b7) 31)).alloc (.cells (cmC 0 0 0 false 0 false none 0 0 false false false 0 0 0 0 0) 36)) (some ⟨w.heap.size + 1, 1, none⟩) 4 ([b1, b2, b3, b4, b5, b6, b7].take 4) := row_1 (((w.alloc (.cells (cmC k i s z n q none 0 0 t l c 4 0 0 0 o) 36)).alloc (.cells (ar8 b0 b1 b2 b3 b4 b5 b6 b7) 31)).alloc (.cells (cmC 0 0 0 false 0 false none 0 0 false false false 0 0 0 0 0) 36)) _ 3 _ _ _ _ _ _ _ _ _ h1 h2 h3 h4 h5 h6 h7 (ext_al (heap_at _ _ _ (by simp)))
  clear h1 h2 h3 h4 h5 h6 h7
  have hsl : ∀ W, (Instr.sliceAt 31 (.pointer (some ⟨w.heap.size + 1, 0, none⟩)) (some (.int .i64 1)) (some (.int .i64 5)) none).run Try.prog W = .ok (.slice (some ⟨w.heap.size + 1, 1, none⟩) 4 7) W := fun W => by kernel_rfl
  go_enter Try.func28, Try.ntmps28
  go_wp2_with (at_builtin; refine wpList_append_nil rfl _ _ rfl rfl _ _ _ _ rfl hR (by decide) ?_)
  intro a5 cap5 w5 h1' h2' hr5 h4' hb5
  have B5 : Below w.heap.size w w5 := (show Below w.heap.size w (((w.alloc (.cells (cmC k i s z n q none 0 0 t l c 4 0 0 0 o) 36)).alloc (.cells (ar8 b0 b1 b2 b3 b4 b5 b6 b7) 31)).alloc (.cells (cmC 0 0 0 false 0 false none 0 0 false false false 0 0 0 0 0) 36)) from (by repeat (first | exact Below.refl _ _ | apply Below.drew | apply Below.al))).trans (hb5.mono (by omega))
  have G5 : w5.heap[w.heap.size]? = some (.cells (cmC k i s z n q none 0 0 t l c 4 0 0 0 o) 36 (0, 0)) := (hb5.block _ (by omega)).trans (ext_al (ext_al (heap_new _ _)))
  have R5 : w5.heap[w.heap.size + 1 + 1]? = some (.cells (cmC 0 0 0 false 0 false none 0 0 false false false 0 0 0 0 0) 36 (0, 0)) := (hb5.block _ (by omega)).trans (heap_at _ _ _ (by simp))
  have g0 : w5.cell? ⟨w.heap.size, 0, none⟩ = some (.int .u8 k) := by rw [cell_of_row _ _ 0 _ _ _ G5]; rfl
  have g7 : w5.cell? ⟨w.heap.size, 7, none⟩ = some (.bool t) := by rw [cell_of_row _ _ 7 _ _ _ G5]; rfl
  have g8 : w5.cell? ⟨w.heap.size, 8, none⟩ = some (.bool l) := by rw [cell_of_row _ _ 8 _ _ _ G5]; rfl
  have HR5 : Hid (Row (w5.setRow (w.heap.size + 1 + 1) (cmC k 0 0 false 0 false a5 4 cap5 t l false 0 0 0 0 0)) a5 4 ([b1, b2, b3, b4, b5, b6, b7].take 4)) := row_set' hr5 _ _ (fun b off e => by have h9 := (h4' b off e).1; omega)
  have HF5 : Hid (∀ b off, a5 = some ⟨b, off, none⟩ → w.heap.size ≤ b) := fun b off e => by have h9 := (h4' b off e).1; omega
  clear hr5 h4' hb5 G5 hR hsl h1' h2'
  go_wp2_with (refine wpList_store_by rfl 36 _ _ rfl _ _ rfl rfl (storeRC _ (w.heap.size + 1 + 1) (cmC 0 0 0 false 0 false none 0 0 false false false 0 0 0 0 0) k 0 0 false 0 false a5 4 cap5 t l false 0 0 0 0 0 _ R5 rfl) ?_)
  have hc := fun j => cell_of_row _ (w.heap.size + 1 + 1) j _ _ _ (setRow_heap _ _ _ (cmC k 0 0 false 0 false a5 4 cap5 t l false 0 0 0 0 0) _ _ R5)
  refine bodyPost_ret (v := cmV k 0 0 false 0 false a5 4 cap5 t l false 0 0 0 0 0) ?_ rfl ⟨a5, cap5, rfl, HR5.out, HF5.out, below_setRow B5 (by omega) _⟩
  simp [results, Try.results28, go_sem, hc]

end Go.Proofs.Ytlnlejdjekbipaa
namespace Go.Proofs.Ytlnlejdjekbipaa
open Go.RowKit

set_option linter.unusedVariables false in
set_option linter.unusedSimpArgs false in
set_option maxHeartbeats 4000000 in
set_option maxRecDepth 100000 in
theorem fields_3_5 (k i s : Int) (z : Bool) (n : Int) (q t l c : Bool) (nn o b0 b1 b2 b3 b4 b5 b6 b7 : Int) (h1 : 0 ≤ b1 ∧ b1 < 256) (h2 : 0 ≤ b2 ∧ b2 < 256) (h3 : 0 ≤ b3 ∧ b3 < 256) (h4 : 0 ≤ b4 ∧ b4 < 256) (h5 : 0 ≤ b5 ∧ b5 < 256) (h6 : 0 ≤ b6 ∧ b6 < 256) (h7 : 0 ≤ b7 ∧ b7 < 256) (w : World) :
    Calls Try.prog 28 #[cmV k i s z n q none 0 0 t l c 5 0 0 0 o, arr8 b0 b1 b2 b3 b4 b5 b6 b7, .int .i64 3] w (FPost w (fieldsP ⟨k, i, s, z, n, q, [], t, l, c, 5, 0, 0, 0, o⟩ ⟨b0, b1, b2, b3, b4, b5, b6, b7⟩ 3)) := by
  have hR : Row (((w.alloc (.cells (cmC k i s z n q none 0 0 t l c 5 0 0 0 o) 36)).alloc (.cells (ar8 b0 b1 b2 b3 b4 b5 b6 b7) 31)).alloc (.cells (cmC 0 0 0 false 0 false none 0 0 false false false 0 0 0 0 0) 36)) (some ⟨w.heap.size + 1, 1, none⟩) 5 ([b1, b2, b3, b4, b5, b6, b7].take 5) := row_1 (((w.alloc (.cells (cmC k i s z n q none 0 0 t l c 5 0 0 0 o) 36)).alloc (.cells (ar8 b0 b1 b2 b3 b4 b5 b6 b7) 31)).alloc (.cells (cmC 0 0 0 false 0 false none 0 0 false false false 0 0 0 0 0) 36)) _ 2 _ _ _ _ _ _ _ _ _ h1 h2 h3 h4 h5 h6 h7 (ext_al (heap_at _ _ _ (by simp)))
  clear h1 h2 h3 h4 h5 h6 h7
  have hsl : ∀ W, (Instr.sliceAt 31 (.pointer (some ⟨w.heap.size + 1, 0, none⟩)) (some (.int .i64 1)) (some (.int .i64 6)) none).run Try.prog W = .ok (.slice (some ⟨w.heap.size + 1, 1, none⟩) 5 7) W := fun W => by kernel_rfl
  go_enter Try.func28, Try.ntmps28
  go_wp2_with (at_builtin; refine wpList_append_nil rfl _ _ rfl rfl _ _ _ _ rfl hR (by decide) ?_)
  intro a5 cap5 w5 h1' h2' hr5 h4' hb5
  have B5 : Below w.heap.size w w5 := (show Below w.heap.size w (((w.alloc (.cells (cmC k i s z n q none 0 0 t l c 5 0 0 0 o) 36)).alloc (.cells (ar8 b0 b1 b2 b3 b4 b5 b6 b7) 31)).alloc (.cells (cmC 0 0 0 false 0 false none 0 0 false false false 0 0 0 0 0) 36)) from (by repeat (first | exact Below.refl _ _ | apply Below.drew | apply Below.al))).trans (hb5.mono (by omega))
  have G5 : w5.heap[w.heap.size]? = some (.cells (cmC k i s z n q none 0 0 t l c 5 0 0 0 o) 36 (0, 0)) := (hb5.block _ (by omega)).trans (ext_al (ext_al (heap_new _ _)))
  have R5 : w5.heap[w.heap.size + 1 + 1]? = some (.cells (cmC 0 0 0 false 0 false none 0 0 false false false 0 0 0 0 0) 36 (0, 0)) := (hb5.block _ (by omega)).trans (heap_at _ _ _ (by simp))
  have g0 : w5.cell? ⟨w.heap.size, 0, none⟩ = some (.int .u8 k) := by rw [cell_of_row _ _ 0 _ _ _ G5]; rfl
  have g7 : w5.cell? ⟨w.heap.size, 7, none⟩ = some (.bool t) := by rw [cell_of_row _ _ 7 _ _ _ G5]; rfl
  have g8 : w5.cell? ⟨w.heap.size, 8, none⟩ = some (.bool l) := by rw [cell_of_row _ _ 8 _ _ _ G5]; rfl
  have HR5 : Hid (Row (w5.setRow (w.heap.size + 1 + 1) (cmC k 0 0 false 0 false a5 5 cap5 t l false 0 0 0 0 0)) a5 5 ([b1, b2, b3, b4, b5, b6, b7].take 5)) := row_set' hr5 _ _ (fun b off e => by have h9 := (h4' b off e).1; omega)
  have HF5 : Hid (∀ b off, a5 = some ⟨b, off, none⟩ → w.heap.size ≤ b) := fun b off e => by have h9 := (h4' b off e).1; omega
  clear hr5 h4' hb5 G5 hR hsl h1' h2'
  go_wp2_with (refine wpList_store_by rfl 36 _ _ rfl _ _ rfl rfl (storeRC _ (w.heap.size + 1 + 1) (cmC 0 0 0 false 0 false none 0 0 false false false 0 0 0 0 0) k 0 0 false 0 false a5 5 cap5 t l false 0 0 0 0 0 _ R5 rfl) ?_)
  have hc := fun j => cell_of_row _ (w.heap.size + 1 + 1) j _ _ _ (setRow_heap _ _ _ (cmC k 0 0 false 0 false a5 5 cap5 t l false 0 0 0 0 0) _ _ R5)
  refine bodyPost_ret (v := cmV k 0 0 false 0 false a5 5 cap5 t l false 0 0 0 0 0) ?_ rfl ⟨a5, cap5, rfl, HR5.out, HF5.out, below_setRow B5 (by omega) _⟩
  simp [results, Try.results28, go_sem, hc]

set_option linter.unusedVariables false in
set_option linter.unusedSimpArgs false in
set_option maxHeartbeats 4000000 in
set_option maxRecDepth 100000 in
theorem fields_3_6 (k i s : Int) (z : Bool) (n : Int) (q t l c : Bool) (nn o b0 b1 b2 b3 b4 b5 b6 b7 : Int) (h1 : 0 ≤ b1 ∧ b1 < 256) (h2 : 0 ≤ b2 ∧ b2 < 256) (h3 : 0 ≤ b3 ∧ b3 < 256) (h4 : 0 ≤ b4 ∧ b4 < 256) (h5 : 0 ≤ b5 ∧ b5 < 256) (h6 : 0 ≤ b6 ∧ b6 < 256) (h7 : 0 ≤ b7 ∧ b7 < 256) (w : World) :
    Calls Try.prog 28 #[cmV k i s z n q none 0 0 t l c 6 0 0 0 o, arr8 b0 b1 b2 b3 b4 b5 b6 b7, .int .i64 3] w (FPost w (fieldsP ⟨k, i, s, z, n, q, [], t, l, c, 6, 0, 0, 0, o⟩ ⟨b0, b1, b2, b3, b4, b5, b6, b7⟩ 3)) := by
  have hR : Row (((w.alloc (.cells (cmC k i s z n q none 0 0 t l c 6 0 0 0 o) 36)).alloc (.cells (ar8 b0 b1 b2 b3 b4 b5 b6 b7) 31)).alloc (.cells (cmC 0 0 0 false 0 false none 0 0 false false false 0 0 0 0 0) 36)) (some ⟨w.heap.size + 1, 1, none⟩) 6 ([b1, b2, b3, b4, b5, b6, b7].take 6) := row_1 (((w.alloc (.cells (cmC k i s z n q none 0 0 t l c 6 0 0 0 o) 36)).alloc (.cells (ar8 b0 b1 b2 b3 b4 b5 b6 b7) 31)).alloc (.cells (cmC 0 0 0 false 0 false none 0 0 false false false 0 0 0 0 0) 36)) _ 1 _ _ _ _ _ _ _ _ _ h1 h2 h3 h4 h5 h6 h7 (ext_al (heap_at _ _ _ (by simp)))
  clear h1 h2 h3 h4 h5 h6 h7
  have hsl : ∀ W, (Instr.sliceAt 31 (.pointer (some ⟨w.heap.size + 1, 0, none⟩)) (some (.int .i64 1)) (some (.int .i64 7)) none).run Try.prog W = .ok (.slice (some ⟨w.heap.size + 1, 1, none⟩) 6 7) W := fun W => by kernel_rfl
  go_enter Try.func28, Try.ntmps28
  go_wp2_with (at_builtin; refine wpList_append_nil rfl _ _ rfl rfl _ _ _ _ rfl hR (by decide) ?_)
  intro a5 cap5 w5 h1' h2' hr5 h4' hb5
  have B5 : Below w.heap.size w w5 := (show Below w.heap.size w (((w.alloc (.cells (cmC k i s z n q none 0 0 t l c 6 0 0 0 o) 36)).alloc (.cells (ar8 b0 b1 b2 b3 b4 b5 b6 b7) 31)).alloc (.cells (cmC 0 0 0 false 0 false none 0 0 false false false 0 0 0 0 0) 36)) from (by repeat (first | exact Below.refl _ _ | apply Below.drew | apply Below.al))).trans (hb5.mono (by omega))
  have G5 : w5.heap[w.heap.size]? = some (.cells (cmC k i s z n q none 0 0 t l c 6 0 0 0 o) 36 (0, 0)) := (hb5.block _ (by omega)).trans (ext_al (ext_al (heap_new _ _)))
  have R5 : w5.heap[w.heap.size + 1 + 1]? = some (.cells (cmC 0 0 0 false 0 false none 0 0 false false false 0 0 0 0 0) 36 (0, 0)) := (hb5.block _ (by omega)).trans (heap_at _ _ _ (by simp))
  have g0 : w5.cell? ⟨w.heap.size, 0, none⟩ = some (.int .u8 k) := by rw [cell_of_row _ _ 0 _ _ _ G5]; rfl
  have g7 : w5.cell? ⟨w.heap.size, 7, none⟩ = some (.bool t) := by rw [cell_of_row _ _ 7 _ _ _ G5]; rfl
  have g8 : w5.cell? ⟨w.heap.size, 8, none⟩ = some (.bool l) := by rw [cell_of_row _ _ 8 _ _ _ G5]; rfl
  have HR5 : Hid (Row (w5.setRow (w.heap.size + 1 + 1) (cmC k 0 0 false 0 false a5 6 cap5 t l false 0 0 0 0 0)) a5 6 ([b1, b2, b3, b4, b5, b6, b7].take 6)) := row_set' hr5 _ _ (fun b off e => by have h9 := (h4' b off e).1; omega)
  have HF5 : Hid (∀ b off, a5 = some ⟨b, off, none⟩ → w.heap.size ≤ b) := fun b off e => by have h9 := (h4' b off e).1; omega
  clear hr5 h4' hb5 G5 hR hsl h1' h2'
  go_wp2_with (refine wpList_store_by rfl 36 _ _ rfl _ _ rfl rfl (storeRC _ (w.heap.size + 1 + 1) (cmC 0 0 0 false 0 false none 0 0 false false false 0 0 0 0 0) k 0 0 false 0 false a5 6 cap5 t l false 0 0 0 0 0 _ R5 rfl) ?_)
  have hc := fun j => cell_of_row _ (w.heap.size + 1 + 1) j _ _ _ (setRow_heap _ _ _ (cmC k 0 0 false 0 false a5 6 cap5 t l false 0 0 0 0 0) _ _ R5)
  refine bodyPost_ret (v := cmV k 0 0 false 0 false a5 6 cap5 t l false 0 0 0 0 0) ?_ rfl ⟨a5, cap5, rfl, HR5.out, HF5.out, below_setRow B5 (by omega) _⟩
  simp [results, Try.results28, go_sem, hc]

set_option linter.unusedVariables false in
set_option linter.unusedSimpArgs false in
set_option maxHeartbeats 4000000 in
set_option maxRecDepth 100000 in
theorem fields_3_7 (k i s : Int) (z : Bool) (n : Int) (q t l c : Bool) (nn o b0 b1 b2 b3 b4 b5 b6 b7 : Int) (h1 : 0 ≤ b1 ∧ b1 < 256) (h2 : 0 ≤ b2 ∧ b2 < 256) (h3 : 0 ≤ b3 ∧ b3 < 256) (h4 : 0 ≤ b4 ∧ b4 < 256) (h5 : 0 ≤ b5 ∧ b5 < 256) (h6 : 0 ≤ b6 ∧ b6 < 256) (h7 : 0 ≤ b7 ∧ b7 < 256) (w : World) :
    Calls Try.prog 28 #[cmV k i s z n q none 0 0 t l c 7 0 0 0 o, arr8 b0 b1 b2 b3 b4 b5 b6 b7, .int .i64 3] w (FPost w (fieldsP ⟨k, i, s, z, n, q, [], t, l, c, 7, 0, 0, 0, o⟩ ⟨b0, b1, b2, b3, b4, b5, b6, b7⟩ 3)) := by
  have hR : Row (((w.alloc (.cells (cmC k i s z n q none 0 0 t l c 7 0 0 0 o) 36)).alloc (.cells (ar8 b0 b1 b2 b3 b4 b5 b6 b7) 31)).alloc (.cells (cmC 0 0 0 false 0 false none 0 0 false false false 0 0 0 0 0) 36)) (some ⟨w.heap.size + 1, 1, none⟩) 7 ([b1, b2, b3, b4, b5, b6, b7].take 7) := row_1 (((w.alloc (.cells (cmC k i s z n q none 0 0 t l c 7 0 0 0 o) 36)).alloc (.cells (ar8 b0 b1 b2 b3 b4 b5 b6 b7) 31)).alloc (.cells (cmC 0 0 0 false 0 false none 0 0 false false false 0 0 0 0 0) 36)) _ 0 _ _ _ _ _ _ _ _ _ h1 h2 h3 h4 h5 h6 h7 (ext_al (heap_at _ _ _ (by simp)))
  clear h1 h2 h3 h4 h5 h6 h7
  have hsl : ∀ W, (Instr.sliceAt 31 (.pointer (some ⟨w.heap.size + 1, 0, none⟩)) (some (.int .i64 1)) (some (.int .i64 8)) none).run Try.prog W = .ok (.slice (some ⟨w.heap.size + 1, 1, none⟩) 7 7) W := fun W => by kernel_rfl
  go_enter Try.func28, Try.ntmps28
  go_wp2_with (at_builtin; refine wpList_append_nil rfl _ _ rfl rfl _ _ _ _ rfl hR (by decide) ?_)
  intro a5 cap5 w5 h1' h2' hr5 h4' hb5
  have B5 : Below w.heap.size w w5 := (show Below w.heap.size w (((w.alloc (.cells (cmC k i s z n q none 0 0 t l c 7 0 0 0 o) 36)).alloc (.cells (ar8 b0 b1 b2 b3 b4 b5 b6 b7) 31)).alloc (.cells (cmC 0 0 0 false 0 false none 0 0 false false false 0 0 0 0 0) 36)) from (by repeat (first | exact Below.refl _ _ | apply Below.drew | apply Below.al))).trans (hb5.mono (by omega))
  have G5 : w5.heap[w.heap.size]? = some (.cells (cmC k i s z n q none 0 0 t l c 7 0 0 0 o) 36 (0, 0)) := (hb5.block _ (by omega)).trans (ext_al (ext_al (heap_new _ _)))
  have R5 : w5.heap[w.heap.size + 1 + 1]? = some (.cells (cmC 0 0 0 false 0 false none 0 0 false false false 0 0 0 0 0) 36 (0, 0)) := (hb5.block _ (by omega)).trans (heap_at _ _ _ (by simp))
  have g0 : w5.cell? ⟨w.heap.size, 0, none⟩ = some (.int .u8 k) := by rw [cell_of_row _ _ 0 _ _ _ G5]; rfl
  have g7 : w5.cell? ⟨w.heap.size, 7, none⟩ = some (.bool t) := by rw [cell_of_row _ _ 7 _ _ _ G5]; rfl
  have g8 : w5.cell? ⟨w.heap.size, 8, none⟩ = some (.bool l) := by rw [cell_of_row _ _ 8 _ _ _ G5]; rfl
  have HR5 : Hid (Row (w5.setRow (w.heap.size + 1 + 1) (cmC k 0 0 false 0 false a5 7 cap5 t l false 0 0 0 0 0)) a5 7 ([b1, b2, b3, b4, b5, b6, b7].take 7)) := row_set' hr5 _ _ (fun b off e => by have h9 := (h4' b off e).1; omega)
  have HF5 : Hid (∀ b off, a5 = some ⟨b, off, none⟩ → w.heap.size ≤ b) := fun b off e => by have h9 := (h4' b off e).1; omega
  clear hr5 h4' hb5 G5 hR hsl h1' h2'
  go_wp2_with (refine wpList_store_by rfl 36 _ _ rfl _ _ rfl rfl (storeRC _ (w.heap.size + 1 + 1) (cmC 0 0 0 false 0 false none 0 0 false false false 0 0 0 0 0) k 0 0 false 0 false a5 7 cap5 t l false 0 0 0 0 0 _ R5 rfl) ?_)
  have hc := fun j => cell_of_row _ (w.heap.size + 1 + 1) j _ _ _ (setRow_heap _ _ _ (cmC k 0 0 false 0 false a5 7 cap5 t l false 0 0 0 0 0) _ _ R5)
  refine bodyPost_ret (v := cmV k 0 0 false 0 false a5 7 cap5 t l false 0 0 0 0 0) ?_ rfl ⟨a5, cap5, rfl, HR5.out, HF5.out, below_setRow B5 (by omega) _⟩
  simp [results, Try.results28, go_sem, hc]

end Go.Proofs.Ytlnlejdjekbipaa
