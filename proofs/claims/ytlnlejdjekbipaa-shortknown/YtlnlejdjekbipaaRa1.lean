/-
  The walk of the document's filled, from the second byte on.
  The walk of the document's filled, from the fifth byte on.
-/
import Derived.Test.YtlnlejdjekbipaaRa
namespace Go.Proofs.Ytlnlejdjekbipaa
open Go.RowKit

set_option linter.unusedSimpArgs false in
set_option maxHeartbeats 4000000 in
set_option maxRecDepth 100000 in
theorem filled1 (x0 : Int) (a : Option Addr) (len cap : Nat) (zs : List Int) (hl : len ≤ 1000) (w : World) (hr : Row w a len zs) :
    Calls Try.prog 32 #[arr8 x0 0 0 0 0 0 0 0, .int .i64 1, .slice a len cap] w fun e w' => e = .returned (.agg (ar8 (x0) (zb zs 0) (zb zs 1) (zb zs 2) (zb zs 3) (zb zs 4) (zb zs 5) (zb zs 6))) ∧ ∃ o1 o2, w' = (w.alloc o1).alloc o2 := by
  have hs := hr.size
  have hl' : (len : Int) ≤ 1000 := by omega
  have hz0 : len ≤ 0 → zb zs 0 = 0 := fun h => by unfold zb; rw [List.getD_eq_getElem?_getD, List.getElem?_eq_none (by omega)]; rfl
  have hz1 : len ≤ 1 → zb zs 1 = 0 := fun h => by unfold zb; rw [List.getD_eq_getElem?_getD, List.getElem?_eq_none (by omega)]; rfl
  have hz2 : len ≤ 2 → zb zs 2 = 0 := fun h => by unfold zb; rw [List.getD_eq_getElem?_getD, List.getElem?_eq_none (by omega)]; rfl
  have hz3 : len ≤ 3 → zb zs 3 = 0 := fun h => by unfold zb; rw [List.getD_eq_getElem?_getD, List.getElem?_eq_none (by omega)]; rfl
  have hz4 : len ≤ 4 → zb zs 4 = 0 := fun h => by unfold zb; rw [List.getD_eq_getElem?_getD, List.getElem?_eq_none (by omega)]; rfl
  have hz5 : len ≤ 5 → zb zs 5 = 0 := fun h => by unfold zb; rw [List.getD_eq_getElem?_getD, List.getElem?_eq_none (by omega)]; rfl
  have hz6 : len ≤ 6 → zb zs 6 = 0 := fun h => by unfold zb; rw [List.getD_eq_getElem?_getD, List.getElem?_eq_none (by omega)]; rfl
  have hc : ∀ j, j < len → ∃ bb off, a = some ⟨bb, off, none⟩ ∧ bb < w.heap.size ∧ w.cell? ⟨bb, off + j, none⟩ = some (.int .u8 (zb zs j)) := fun j hj => by
    obtain ⟨bb, off, e, h⟩ := hr.at_ (by omega)
    exact ⟨bb, off, e, hr.old (by omega) bb off e, h j hj⟩
  have hc0 := hc 0
  have hc1 := hc 1
  have hc2 := hc 2
  have hc3 := hc 3
  have hc4 := hc 4
  have hc5 := hc 5
  have hc6 := hc 6
  clear hc hr hs
  obtain ⟨z0, HZ0⟩ : ∃ z, zb zs 0 = z := ⟨_, rfl⟩
  rw [HZ0] at hz0 hc0 ⊢
  clear HZ0
  obtain ⟨z1, HZ1⟩ : ∃ z, zb zs 1 = z := ⟨_, rfl⟩
  rw [HZ1] at hz1 hc1 ⊢
  clear HZ1
  obtain ⟨z2, HZ2⟩ : ∃ z, zb zs 2 = z := ⟨_, rfl⟩
  rw [HZ2] at hz2 hc2 ⊢
  clear HZ2
  obtain ⟨z3, HZ3⟩ : ∃ z, zb zs 3 = z := ⟨_, rfl⟩
  rw [HZ3] at hz3 hc3 ⊢
  clear HZ3
  obtain ⟨z4, HZ4⟩ : ∃ z, zb zs 4 = z := ⟨_, rfl⟩
  rw [HZ4] at hz4 hc4 ⊢
  clear HZ4
  obtain ⟨z5, HZ5⟩ : ∃ z, zb zs 5 = z := ⟨_, rfl⟩
  rw [HZ5] at hz5 hc5 ⊢
  clear HZ5
  obtain ⟨z6, HZ6⟩ : ∃ z, zb zs 6 = z := ⟨_, rfl⟩
  rw [HZ6] at hz6 hc6 ⊢
  clear HZ6
  have HZ0 : Hid (len ≤ 0 → z0 = 0) := hz0
  have HC0 : Hid (0 < len → ∃ bb off, a = some ⟨bb, off, none⟩ ∧ bb < w.heap.size ∧ w.cell? ⟨bb, off + 0, none⟩ = some (.int .u8 z0)) := hc0
  clear hz0 hc0
  have HZ1 : Hid (len ≤ 1 → z1 = 0) := hz1
  have HC1 : Hid (1 < len → ∃ bb off, a = some ⟨bb, off, none⟩ ∧ bb < w.heap.size ∧ w.cell? ⟨bb, off + 1, none⟩ = some (.int .u8 z1)) := hc1
  clear hz1 hc1
  have HZ2 : Hid (len ≤ 2 → z2 = 0) := hz2
  have HC2 : Hid (2 < len → ∃ bb off, a = some ⟨bb, off, none⟩ ∧ bb < w.heap.size ∧ w.cell? ⟨bb, off + 2, none⟩ = some (.int .u8 z2)) := hc2
  clear hz2 hc2
  have HZ3 : Hid (len ≤ 3 → z3 = 0) := hz3
  have HC3 : Hid (3 < len → ∃ bb off, a = some ⟨bb, off, none⟩ ∧ bb < w.heap.size ∧ w.cell? ⟨bb, off + 3, none⟩ = some (.int .u8 z3)) := hc3
  clear hz3 hc3
  have HZ4 : Hid (len ≤ 4 → z4 = 0) := hz4
  have HC4 : Hid (4 < len → ∃ bb off, a = some ⟨bb, off, none⟩ ∧ bb < w.heap.size ∧ w.cell? ⟨bb, off + 4, none⟩ = some (.int .u8 z4)) := hc4
  clear hz4 hc4
  have HZ5 : Hid (len ≤ 5 → z5 = 0) := hz5
  have HC5 : Hid (5 < len → ∃ bb off, a = some ⟨bb, off, none⟩ ∧ bb < w.heap.size ∧ w.cell? ⟨bb, off + 5, none⟩ = some (.int .u8 z5)) := hc5
  clear hz5 hc5
  have HZ6 : Hid (len ≤ 6 → z6 = 0) := hz6
  have HC6 : Hid (6 < len → ∃ bb off, a = some ⟨bb, off, none⟩ ∧ bb < w.heap.size ∧ w.cell? ⟨bb, off + 6, none⟩ = some (.int .u8 z6)) := hc6
  clear hz6 hc6
  go_enter Try.func32, Try.ntmps32
  go_wp2_with fail
  go_loopw [7] (fun i wr => (i = .int .i64 0 ∧ 0 ≤ len ∧ wr = (w.alloc (.cells (ar8 (x0) (0) (0) (0) (0) (0) (0) (0)) 31)).alloc (.cells (ar8 0 0 0 0 0 0 0 0) 31)) ∨ (i = .int .i64 1 ∧ 1 ≤ len ∧ wr = (w.alloc (.cells (ar8 (x0) (z0) (0) (0) (0) (0) (0) (0)) 31)).alloc (.cells (ar8 0 0 0 0 0 0 0 0) 31)) ∨ (i = .int .i64 2 ∧ 2 ≤ len ∧ wr = (w.alloc (.cells (ar8 (x0) (z0) (z1) (0) (0) (0) (0) (0)) 31)).alloc (.cells (ar8 0 0 0 0 0 0 0 0) 31)) ∨ (i = .int .i64 3 ∧ 3 ≤ len ∧ wr = (w.alloc (.cells (ar8 (x0) (z0) (z1) (z2) (0) (0) (0) (0)) 31)).alloc (.cells (ar8 0 0 0 0 0 0 0 0) 31)) ∨ (i = .int .i64 4 ∧ 4 ≤ len ∧ wr = (w.alloc (.cells (ar8 (x0) (z0) (z1) (z2) (z3) (0) (0) (0)) 31)).alloc (.cells (ar8 0 0 0 0 0 0 0 0) 31)) ∨ (i = .int .i64 5 ∧ 5 ≤ len ∧ wr = (w.alloc (.cells (ar8 (x0) (z0) (z1) (z2) (z3) (z4) (0) (0)) 31)).alloc (.cells (ar8 0 0 0 0 0 0 0 0) 31)) ∨ (i = .int .i64 6 ∧ 6 ≤ len ∧ wr = (w.alloc (.cells (ar8 (x0) (z0) (z1) (z2) (z3) (z4) (z5) (0)) 31)).alloc (.cells (ar8 0 0 0 0 0 0 0 0) 31)) ∨ (i = .int .i64 7 ∧ 7 ≤ len ∧ wr = (w.alloc (.cells (ar8 (x0) (z0) (z1) (z2) (z3) (z4) (z5) (z6)) 31)).alloc (.cells (ar8 0 0 0 0 0 0 0 0) 31))) (fun i _ => 7 - (intOf i).toNat)
  case atStart => exact Or.inl ⟨rfl, by omega, rfl⟩
  case round =>
    rcases hrel with ⟨rfl, hk, rfl⟩ | ⟨rfl, hk, rfl⟩ | ⟨rfl, hk, rfl⟩ | ⟨rfl, hk, rfl⟩ | ⟨rfl, hk, rfl⟩ | ⟨rfl, hk, rfl⟩ | ⟨rfl, hk, rfl⟩ | ⟨rfl, hk, rfl⟩
    · by_cases hlt : 0 < len
      · have hlt' : (0 : Int) < (len : Int) := by omega
        have hk2 : 1 ≤ len := hlt
        obtain ⟨bb, off, rfl, hbb, hcc⟩ := HC0.out hlt
        have hc' : ((w.alloc (.cells (ar8 (x0) (0) (0) (0) (0) (0) (0) (0)) 31)).alloc (.cells (ar8 0 0 0 0 0 0 0 0) 31)).cell? ⟨bb, off, none⟩ = some (.int .u8 z0) := by
          rw [Below.cell (w := w) (B := w.heap.size) (by repeat (first | exact Below.refl _ _ | apply Below.drew | apply Below.al)) hbb]; exact hcc
        clear hcc
        go_wp2_with fail
        exact ⟨by first | (simp; done) | (simp; omega), by decide⟩
      · have hlt' : ¬ (0 : Int) < (len : Int) := by omega
        obtain ⟨rfl, rfl, rfl, rfl, rfl, rfl, rfl⟩ : z0 = 0 ∧ z1 = 0 ∧ z2 = 0 ∧ z3 = 0 ∧ z4 = 0 ∧ z5 = 0 ∧ z6 = 0 := ⟨HZ0.out (by omega), HZ1.out (by omega), HZ2.out (by omega), HZ3.out (by omega), HZ4.out (by omega), HZ5.out (by omega), HZ6.out (by omega)⟩
        clear hlt hk
        go_wp2_with fail
        exact bodyPost_ret (v := .agg (ar8 (x0) (0) (0) (0) (0) (0) (0) (0))) (by simp [results, Try.results32, go_sem]) rfl ⟨rfl, _, _, rfl⟩
    · by_cases hlt : 1 < len
      · have hlt' : (1 : Int) < (len : Int) := by omega
        have hk2 : 2 ≤ len := hlt
        obtain ⟨bb, off, rfl, hbb, hcc⟩ := HC1.out hlt
        have hc' : ((w.alloc (.cells (ar8 (x0) (z0) (0) (0) (0) (0) (0) (0)) 31)).alloc (.cells (ar8 0 0 0 0 0 0 0 0) 31)).cell? ⟨bb, off + 1, none⟩ = some (.int .u8 z1) := by
          rw [Below.cell (w := w) (B := w.heap.size) (by repeat (first | exact Below.refl _ _ | apply Below.drew | apply Below.al)) hbb]; exact hcc
        clear hcc
        go_wp2_with fail
        exact ⟨by first | (simp; done) | (simp; omega), by decide⟩
      · have hlt' : ¬ (1 : Int) < (len : Int) := by omega
        obtain ⟨rfl, rfl, rfl, rfl, rfl, rfl⟩ : z1 = 0 ∧ z2 = 0 ∧ z3 = 0 ∧ z4 = 0 ∧ z5 = 0 ∧ z6 = 0 := ⟨HZ1.out (by omega), HZ2.out (by omega), HZ3.out (by omega), HZ4.out (by omega), HZ5.out (by omega), HZ6.out (by omega)⟩
        clear hlt hk
        go_wp2_with fail
        exact bodyPost_ret (v := .agg (ar8 (x0) (z0) (0) (0) (0) (0) (0) (0))) (by simp [results, Try.results32, go_sem]) rfl ⟨rfl, _, _, rfl⟩
    · by_cases hlt : 2 < len
      · have hlt' : (2 : Int) < (len : Int) := by omega
        have hk2 : 3 ≤ len := hlt
        obtain ⟨bb, off, rfl, hbb, hcc⟩ := HC2.out hlt
        have hc' : ((w.alloc (.cells (ar8 (x0) (z0) (z1) (0) (0) (0) (0) (0)) 31)).alloc (.cells (ar8 0 0 0 0 0 0 0 0) 31)).cell? ⟨bb, off + 2, none⟩ = some (.int .u8 z2) := by
          rw [Below.cell (w := w) (B := w.heap.size) (by repeat (first | exact Below.refl _ _ | apply Below.drew | apply Below.al)) hbb]; exact hcc
        clear hcc
        go_wp2_with fail
        exact ⟨by first | (simp; done) | (simp; omega), by decide⟩
      · have hlt' : ¬ (2 : Int) < (len : Int) := by omega
        obtain ⟨rfl, rfl, rfl, rfl, rfl⟩ : z2 = 0 ∧ z3 = 0 ∧ z4 = 0 ∧ z5 = 0 ∧ z6 = 0 := ⟨HZ2.out (by omega), HZ3.out (by omega), HZ4.out (by omega), HZ5.out (by omega), HZ6.out (by omega)⟩
        clear hlt hk
        go_wp2_with fail
        exact bodyPost_ret (v := .agg (ar8 (x0) (z0) (z1) (0) (0) (0) (0) (0))) (by simp [results, Try.results32, go_sem]) rfl ⟨rfl, _, _, rfl⟩
    · by_cases hlt : 3 < len
      · have hlt' : (3 : Int) < (len : Int) := by omega
        have hk2 : 4 ≤ len := hlt
        obtain ⟨bb, off, rfl, hbb, hcc⟩ := HC3.out hlt
        have hc' : ((w.alloc (.cells (ar8 (x0) (z0) (z1) (z2) (0) (0) (0) (0)) 31)).alloc (.cells (ar8 0 0 0 0 0 0 0 0) 31)).cell? ⟨bb, off + 3, none⟩ = some (.int .u8 z3) := by
          rw [Below.cell (w := w) (B := w.heap.size) (by repeat (first | exact Below.refl _ _ | apply Below.drew | apply Below.al)) hbb]; exact hcc
        clear hcc
        go_wp2_with fail
        exact ⟨by first | (simp; done) | (simp; omega), by decide⟩
      · have hlt' : ¬ (3 : Int) < (len : Int) := by omega
        obtain ⟨rfl, rfl, rfl, rfl⟩ : z3 = 0 ∧ z4 = 0 ∧ z5 = 0 ∧ z6 = 0 := ⟨HZ3.out (by omega), HZ4.out (by omega), HZ5.out (by omega), HZ6.out (by omega)⟩
        clear hlt hk
        go_wp2_with fail
        exact bodyPost_ret (v := .agg (ar8 (x0) (z0) (z1) (z2) (0) (0) (0) (0))) (by simp [results, Try.results32, go_sem]) rfl ⟨rfl, _, _, rfl⟩
    · by_cases hlt : 4 < len
      · have hlt' : (4 : Int) < (len : Int) := by omega
        have hk2 : 5 ≤ len := hlt
        obtain ⟨bb, off, rfl, hbb, hcc⟩ := HC4.out hlt
        have hc' : ((w.alloc (.cells (ar8 (x0) (z0) (z1) (z2) (z3) (0) (0) (0)) 31)).alloc (.cells (ar8 0 0 0 0 0 0 0 0) 31)).cell? ⟨bb, off + 4, none⟩ = some (.int .u8 z4) := by
          rw [Below.cell (w := w) (B := w.heap.size) (by repeat (first | exact Below.refl _ _ | apply Below.drew | apply Below.al)) hbb]; exact hcc
        clear hcc
        go_wp2_with fail
        exact ⟨by first | (simp; done) | (simp; omega), by decide⟩
      · have hlt' : ¬ (4 : Int) < (len : Int) := by omega
        obtain ⟨rfl, rfl, rfl⟩ : z4 = 0 ∧ z5 = 0 ∧ z6 = 0 := ⟨HZ4.out (by omega), HZ5.out (by omega), HZ6.out (by omega)⟩
        clear hlt hk
        go_wp2_with fail
        exact bodyPost_ret (v := .agg (ar8 (x0) (z0) (z1) (z2) (z3) (0) (0) (0))) (by simp [results, Try.results32, go_sem]) rfl ⟨rfl, _, _, rfl⟩
    · by_cases hlt : 5 < len
      · have hlt' : (5 : Int) < (len : Int) := by omega
        have hk2 : 6 ≤ len := hlt
        obtain ⟨bb, off, rfl, hbb, hcc⟩ := HC5.out hlt
        have hc' : ((w.alloc (.cells (ar8 (x0) (z0) (z1) (z2) (z3) (z4) (0) (0)) 31)).alloc (.cells (ar8 0 0 0 0 0 0 0 0) 31)).cell? ⟨bb, off + 5, none⟩ = some (.int .u8 z5) := by
          rw [Below.cell (w := w) (B := w.heap.size) (by repeat (first | exact Below.refl _ _ | apply Below.drew | apply Below.al)) hbb]; exact hcc
        clear hcc
        go_wp2_with fail
        exact ⟨by first | (simp; done) | (simp; omega), by decide⟩
      · have hlt' : ¬ (5 : Int) < (len : Int) := by omega
        obtain ⟨rfl, rfl⟩ : z5 = 0 ∧ z6 = 0 := ⟨HZ5.out (by omega), HZ6.out (by omega)⟩
        clear hlt hk
        go_wp2_with fail
        exact bodyPost_ret (v := .agg (ar8 (x0) (z0) (z1) (z2) (z3) (z4) (0) (0))) (by simp [results, Try.results32, go_sem]) rfl ⟨rfl, _, _, rfl⟩
    · by_cases hlt : 6 < len
      · have hlt' : (6 : Int) < (len : Int) := by omega
        have hk2 : 7 ≤ len := hlt
        obtain ⟨bb, off, rfl, hbb, hcc⟩ := HC6.out hlt
        have hc' : ((w.alloc (.cells (ar8 (x0) (z0) (z1) (z2) (z3) (z4) (z5) (0)) 31)).alloc (.cells (ar8 0 0 0 0 0 0 0 0) 31)).cell? ⟨bb, off + 6, none⟩ = some (.int .u8 z6) := by
          rw [Below.cell (w := w) (B := w.heap.size) (by repeat (first | exact Below.refl _ _ | apply Below.drew | apply Below.al)) hbb]; exact hcc
        clear hcc
        go_wp2_with fail
        exact ⟨by first | (simp; done) | (simp; omega), by decide⟩
      · have hlt' : ¬ (6 : Int) < (len : Int) := by omega
        obtain ⟨rfl, _⟩ : z6 = 0 ∧ True := ⟨HZ6.out (by omega), trivial⟩
        clear hlt hk
        go_wp2_with fail
        exact bodyPost_ret (v := .agg (ar8 (x0) (z0) (z1) (z2) (z3) (z4) (z5) (0))) (by simp [results, Try.results32, go_sem]) rfl ⟨rfl, _, _, rfl⟩
    · by_cases hlt : (7 : Int) < (len : Int)
      all_goals
        go_wp2_with fail
        exact bodyPost_ret (v := .agg (ar8 (x0) (z0) (z1) (z2) (z3) (z4) (z5) (z6))) (by simp [results, Try.results32, go_sem]) rfl ⟨rfl, _, _, rfl⟩
#print axioms filled1

end Go.Proofs.Ytlnlejdjekbipaa
namespace Go.Proofs.Ytlnlejdjekbipaa
open Go.RowKit

set_option linter.unusedSimpArgs false in
set_option maxHeartbeats 4000000 in
set_option maxRecDepth 100000 in
theorem filled4 (x0 x1 x2 x3 : Int) (a : Option Addr) (len cap : Nat) (zs : List Int) (hl : len ≤ 1000) (w : World) (hr : Row w a len zs) :
    Calls Try.prog 32 #[arr8 x0 x1 x2 x3 0 0 0 0, .int .i64 4, .slice a len cap] w fun e w' => e = .returned (.agg (ar8 (x0) (x1) (x2) (x3) (zb zs 0) (zb zs 1) (zb zs 2) (zb zs 3))) ∧ ∃ o1 o2, w' = (w.alloc o1).alloc o2 := by
  have hs := hr.size
  have hl' : (len : Int) ≤ 1000 := by omega
  have hz0 : len ≤ 0 → zb zs 0 = 0 := fun h => by unfold zb; rw [List.getD_eq_getElem?_getD, List.getElem?_eq_none (by omega)]; rfl
  have hz1 : len ≤ 1 → zb zs 1 = 0 := fun h => by unfold zb; rw [List.getD_eq_getElem?_getD, List.getElem?_eq_none (by omega)]; rfl
  have hz2 : len ≤ 2 → zb zs 2 = 0 := fun h => by unfold zb; rw [List.getD_eq_getElem?_getD, List.getElem?_eq_none (by omega)]; rfl
  have hz3 : len ≤ 3 → zb zs 3 = 0 := fun h => by unfold zb; rw [List.getD_eq_getElem?_getD, List.getElem?_eq_none (by omega)]; rfl
  have hc : ∀ j, j < len → ∃ bb off, a = some ⟨bb, off, none⟩ ∧ bb < w.heap.size ∧ w.cell? ⟨bb, off + j, none⟩ = some (.int .u8 (zb zs j)) := fun j hj => by
    obtain ⟨bb, off, e, h⟩ := hr.at_ (by omega)
    exact ⟨bb, off, e, hr.old (by omega) bb off e, h j hj⟩
  have hc0 := hc 0
  have hc1 := hc 1
  have hc2 := hc 2
  have hc3 := hc 3
  clear hc hr hs
  obtain ⟨z0, HZ0⟩ : ∃ z, zb zs 0 = z := ⟨_, rfl⟩
  rw [HZ0] at hz0 hc0 ⊢
  clear HZ0
  obtain ⟨z1, HZ1⟩ : ∃ z, zb zs 1 = z := ⟨_, rfl⟩
  rw [HZ1] at hz1 hc1 ⊢
  clear HZ1
  obtain ⟨z2, HZ2⟩ : ∃ z, zb zs 2 = z := ⟨_, rfl⟩
  rw [HZ2] at hz2 hc2 ⊢
  clear HZ2
  obtain ⟨z3, HZ3⟩ : ∃ z, zb zs 3 = z := ⟨_, rfl⟩
  rw [HZ3] at hz3 hc3 ⊢
  clear HZ3
  have HZ0 : Hid (len ≤ 0 → z0 = 0) := hz0
  have HC0 : Hid (0 < len → ∃ bb off, a = some ⟨bb, off, none⟩ ∧ bb < w.heap.size ∧ w.cell? ⟨bb, off + 0, none⟩ = some (.int .u8 z0)) := hc0
  clear hz0 hc0
  have HZ1 : Hid (len ≤ 1 → z1 = 0) := hz1
  have HC1 : Hid (1 < len → ∃ bb off, a = some ⟨bb, off, none⟩ ∧ bb < w.heap.size ∧ w.cell? ⟨bb, off + 1, none⟩ = some (.int .u8 z1)) := hc1
  clear hz1 hc1
  have HZ2 : Hid (len ≤ 2 → z2 = 0) := hz2
  have HC2 : Hid (2 < len → ∃ bb off, a = some ⟨bb, off, none⟩ ∧ bb < w.heap.size ∧ w.cell? ⟨bb, off + 2, none⟩ = some (.int .u8 z2)) := hc2
  clear hz2 hc2
  have HZ3 : Hid (len ≤ 3 → z3 = 0) := hz3
  have HC3 : Hid (3 < len → ∃ bb off, a = some ⟨bb, off, none⟩ ∧ bb < w.heap.size ∧ w.cell? ⟨bb, off + 3, none⟩ = some (.int .u8 z3)) := hc3
  clear hz3 hc3
  go_enter Try.func32, Try.ntmps32
  go_wp2_with fail
  go_loopw [7] (fun i wr => (i = .int .i64 0 ∧ 0 ≤ len ∧ wr = (w.alloc (.cells (ar8 (x0) (x1) (x2) (x3) (0) (0) (0) (0)) 31)).alloc (.cells (ar8 0 0 0 0 0 0 0 0) 31)) ∨ (i = .int .i64 1 ∧ 1 ≤ len ∧ wr = (w.alloc (.cells (ar8 (x0) (x1) (x2) (x3) (z0) (0) (0) (0)) 31)).alloc (.cells (ar8 0 0 0 0 0 0 0 0) 31)) ∨ (i = .int .i64 2 ∧ 2 ≤ len ∧ wr = (w.alloc (.cells (ar8 (x0) (x1) (x2) (x3) (z0) (z1) (0) (0)) 31)).alloc (.cells (ar8 0 0 0 0 0 0 0 0) 31)) ∨ (i = .int .i64 3 ∧ 3 ≤ len ∧ wr = (w.alloc (.cells (ar8 (x0) (x1) (x2) (x3) (z0) (z1) (z2) (0)) 31)).alloc (.cells (ar8 0 0 0 0 0 0 0 0) 31)) ∨ (i = .int .i64 4 ∧ 4 ≤ len ∧ wr = (w.alloc (.cells (ar8 (x0) (x1) (x2) (x3) (z0) (z1) (z2) (z3)) 31)).alloc (.cells (ar8 0 0 0 0 0 0 0 0) 31))) (fun i _ => 4 - (intOf i).toNat)
  case atStart => exact Or.inl ⟨rfl, by omega, rfl⟩
  case round =>
    rcases hrel with ⟨rfl, hk, rfl⟩ | ⟨rfl, hk, rfl⟩ | ⟨rfl, hk, rfl⟩ | ⟨rfl, hk, rfl⟩ | ⟨rfl, hk, rfl⟩
    · by_cases hlt : 0 < len
      · have hlt' : (0 : Int) < (len : Int) := by omega
        have hk2 : 1 ≤ len := hlt
        obtain ⟨bb, off, rfl, hbb, hcc⟩ := HC0.out hlt
        have hc' : ((w.alloc (.cells (ar8 (x0) (x1) (x2) (x3) (0) (0) (0) (0)) 31)).alloc (.cells (ar8 0 0 0 0 0 0 0 0) 31)).cell? ⟨bb, off, none⟩ = some (.int .u8 z0) := by
          rw [Below.cell (w := w) (B := w.heap.size) (by repeat (first | exact Below.refl _ _ | apply Below.drew | apply Below.al)) hbb]; exact hcc
        clear hcc
        go_wp2_with fail
        exact ⟨by first | (simp; done) | (simp; omega), by decide⟩
      · have hlt' : ¬ (0 : Int) < (len : Int) := by omega
        obtain ⟨rfl, rfl, rfl, rfl⟩ : z0 = 0 ∧ z1 = 0 ∧ z2 = 0 ∧ z3 = 0 := ⟨HZ0.out (by omega), HZ1.out (by omega), HZ2.out (by omega), HZ3.out (by omega)⟩
        clear hlt hk
        go_wp2_with fail
        exact bodyPost_ret (v := .agg (ar8 (x0) (x1) (x2) (x3) (0) (0) (0) (0))) (by simp [results, Try.results32, go_sem]) rfl ⟨rfl, _, _, rfl⟩
    · by_cases hlt : 1 < len
      · have hlt' : (1 : Int) < (len : Int) := by omega
        have hk2 : 2 ≤ len := hlt
        obtain ⟨bb, off, rfl, hbb, hcc⟩ := HC1.out hlt
        have hc' : ((w.alloc (.cells (ar8 (x0) (x1) (x2) (x3) (z0) (0) (0) (0)) 31)).alloc (.cells (ar8 0 0 0 0 0 0 0 0) 31)).cell? ⟨bb, off + 1, none⟩ = some (.int .u8 z1) := by
          rw [Below.cell (w := w) (B := w.heap.size) (by repeat (first | exact Below.refl _ _ | apply Below.drew | apply Below.al)) hbb]; exact hcc
        clear hcc
        go_wp2_with fail
        exact ⟨by first | (simp; done) | (simp; omega), by decide⟩
      · have hlt' : ¬ (1 : Int) < (len : Int) := by omega
        obtain ⟨rfl, rfl, rfl⟩ : z1 = 0 ∧ z2 = 0 ∧ z3 = 0 := ⟨HZ1.out (by omega), HZ2.out (by omega), HZ3.out (by omega)⟩
        clear hlt hk
        go_wp2_with fail
        exact bodyPost_ret (v := .agg (ar8 (x0) (x1) (x2) (x3) (z0) (0) (0) (0))) (by simp [results, Try.results32, go_sem]) rfl ⟨rfl, _, _, rfl⟩
    · by_cases hlt : 2 < len
      · have hlt' : (2 : Int) < (len : Int) := by omega
        have hk2 : 3 ≤ len := hlt
        obtain ⟨bb, off, rfl, hbb, hcc⟩ := HC2.out hlt
        have hc' : ((w.alloc (.cells (ar8 (x0) (x1) (x2) (x3) (z0) (z1) (0) (0)) 31)).alloc (.cells (ar8 0 0 0 0 0 0 0 0) 31)).cell? ⟨bb, off + 2, none⟩ = some (.int .u8 z2) := by
          rw [Below.cell (w := w) (B := w.heap.size) (by repeat (first | exact Below.refl _ _ | apply Below.drew | apply Below.al)) hbb]; exact hcc
        clear hcc
        go_wp2_with fail
        exact ⟨by first | (simp; done) | (simp; omega), by decide⟩
      · have hlt' : ¬ (2 : Int) < (len : Int) := by omega
        obtain ⟨rfl, rfl⟩ : z2 = 0 ∧ z3 = 0 := ⟨HZ2.out (by omega), HZ3.out (by omega)⟩
        clear hlt hk
        go_wp2_with fail
        exact bodyPost_ret (v := .agg (ar8 (x0) (x1) (x2) (x3) (z0) (z1) (0) (0))) (by simp [results, Try.results32, go_sem]) rfl ⟨rfl, _, _, rfl⟩
    · by_cases hlt : 3 < len
      · have hlt' : (3 : Int) < (len : Int) := by omega
        have hk2 : 4 ≤ len := hlt
        obtain ⟨bb, off, rfl, hbb, hcc⟩ := HC3.out hlt
        have hc' : ((w.alloc (.cells (ar8 (x0) (x1) (x2) (x3) (z0) (z1) (z2) (0)) 31)).alloc (.cells (ar8 0 0 0 0 0 0 0 0) 31)).cell? ⟨bb, off + 3, none⟩ = some (.int .u8 z3) := by
          rw [Below.cell (w := w) (B := w.heap.size) (by repeat (first | exact Below.refl _ _ | apply Below.drew | apply Below.al)) hbb]; exact hcc
        clear hcc
        go_wp2_with fail
        exact ⟨by first | (simp; done) | (simp; omega), by decide⟩
      · have hlt' : ¬ (3 : Int) < (len : Int) := by omega
        obtain ⟨rfl, _⟩ : z3 = 0 ∧ True := ⟨HZ3.out (by omega), trivial⟩
        clear hlt hk
        go_wp2_with fail
        exact bodyPost_ret (v := .agg (ar8 (x0) (x1) (x2) (x3) (z0) (z1) (z2) (0))) (by simp [results, Try.results32, go_sem]) rfl ⟨rfl, _, _, rfl⟩
    · by_cases hlt : (4 : Int) < (len : Int)
      all_goals
        go_wp2_with fail
        exact bodyPost_ret (v := .agg (ar8 (x0) (x1) (x2) (x3) (z0) (z1) (z2) (z3))) (by simp [results, Try.results32, go_sem]) rfl ⟨rfl, _, _, rfl⟩
#print axioms filled4

end Go.Proofs.Ytlnlejdjekbipaa
