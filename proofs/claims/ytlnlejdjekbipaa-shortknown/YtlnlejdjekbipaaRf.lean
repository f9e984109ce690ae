/-
  First bytes as the document has them.
-/
import Derived.Test.YtlnlejdjekbipaaRe
namespace Go.Proofs.Ytlnlejdjekbipaa
open Go.RowKit

theorem bare_27 (C : Cm) : (decide ((⟨C.k, C.i, C.s, C.z, C.n, C.q, C.d, false, false, false, 0, 0, 0, 0, 0⟩ : Cm) = C) && C.n == 0) = C.only 27 := by
  rw [Bool.eq_iff_iff, only_27]
  obtain ⟨k, i, s, z, n, q, d, t, l, c, b, e, u, m, o⟩ := C
  simp only [Bool.and_eq_true, decide_eq_true_iff, beq_iff_eq, Cm.mk.injEq, true_and]
  constructor
  · rintro ⟨⟨rfl, rfl, rfl, rfl, rfl, rfl, rfl, rfl⟩, rfl⟩; simp
  · rintro ⟨rfl, rfl, rfl, rfl, rfl, rfl, rfl, rfl, rfl⟩; simp
theorem bare_7 (C : Cm) (hq : C.q = false) : (decide ((⟨C.k, C.i, C.s, C.z, C.n, C.q, C.d, false, false, false, 0, 0, 0, 0, 0⟩ : Cm) = C) && decide (C.d.length = 0)) = C.only 7 := by
  rw [Bool.eq_iff_iff, only_7]
  obtain ⟨k, i, s, z, n, q, d, t, l, c, b, e, u, m, o⟩ := C
  obtain rfl : q = false := hq
  simp only [Bool.and_eq_true, decide_eq_true_iff, List.length_eq_zero_iff, Cm.mk.injEq, true_and]
  constructor
  · rintro ⟨⟨rfl, rfl, rfl, rfl, rfl, rfl, rfl, rfl⟩, rfl⟩; simp
  · rintro ⟨rfl, rfl, rfl, rfl, rfl, rfl, rfl, rfl, rfl⟩; simp
theorem q0_doc (f : Int) (hf : f = 32 ∨ f = 64) (z : Bool) (len : Nat) (h : quickOk z len = true) : (f + 2 + bitn z (1 + 4 * (4 - min (len : Int) 4))) % 256 = q0 f z len := by
  have h4 : len ≤ 4 := by simp [quickOk] at h; omega
  rcases hf with rfl | rfl <;> cases z <;> (obtain rfl | rfl | rfl | rfl | rfl : len = 0 ∨ len = 1 ∨ len = 2 ∨ len = 3 ∨ len = 4 := by omega) <;> first | decide +kernel | (exfalso; revert h; decide)
theorem p0_doc (t l : Bool) (len : Nat) (h : len ≤ 7) : (bitn t 16 + 2 * (7 - min (len : Int) 7) + bitn l 1) % 256 = p0 0 t l len := by
  cases t <;> cases l <;> (obtain rfl | rfl | rfl | rfl | rfl | rfl | rfl | rfl : len = 0 ∨ len = 1 ∨ len = 2 ∨ len = 3 ∨ len = 4 ∨ len = 5 ∨ len = 6 ∨ len = 7 := by omega) <;> decide +kernel
end Go.Proofs.Ytlnlejdjekbipaa
