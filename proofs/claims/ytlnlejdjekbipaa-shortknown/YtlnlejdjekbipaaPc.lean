/-
  Which commands have only these fields.
-/
import Derived.Test.YtlnlejdjekbipaaPa
namespace Go.Proofs.Ytlnlejdjekbipaa
open Go.RowKit

set_option linter.unusedSimpArgs false in
theorem only_0 (c : Cm) : c.only 0 = true ↔ c = ⟨c.k, 0, 0, false, 0, false, [], false, false, false, 0, 0, 0, 0, 0⟩ := by
  have h1 : c.only 0 = true ↔ c.i = 0 ∧ c.s = 0 ∧ c.z = false ∧ c.n = 0 ∧ c.q = false ∧ c.d = [] ∧ c.t = false ∧ c.l = false ∧ c.c = false ∧ c.b = 0 ∧ c.e = 0 ∧ c.u = 0 ∧ c.m = 0 ∧ c.o = 0 := by
    simp only [Cm.only, onlyN, flN, orb_fb, beq_iff_eq, Nat.and_or_distrib_right, Nat.or_eq_zero_iff, fb_and, Nat.zero_and]
    simp [fb_zero, fb_eq, and_assoc]
  rw [h1]
  obtain ⟨k, i, s, z, n, q, d, t, l, cc, b, e, u, m, o⟩ := c
  simp
set_option linter.unusedSimpArgs false in
theorem only_1 (c : Cm) : c.only 1 = true ↔ c = ⟨c.k, c.i, c.s, false, 0, false, [], false, false, false, 0, 0, 0, 0, 0⟩ := by
  have h1 : c.only 1 = true ↔ c.z = false ∧ c.n = 0 ∧ c.q = false ∧ c.d = [] ∧ c.t = false ∧ c.l = false ∧ c.c = false ∧ c.b = 0 ∧ c.e = 0 ∧ c.u = 0 ∧ c.m = 0 ∧ c.o = 0 := by
    simp only [Cm.only, onlyN, flN, orb_fb, beq_iff_eq, Nat.and_or_distrib_right, Nat.or_eq_zero_iff, fb_and, Nat.zero_and]
    simp [fb_zero, fb_eq, and_assoc]
  rw [h1]
  obtain ⟨k, i, s, z, n, q, d, t, l, cc, b, e, u, m, o⟩ := c
  simp
set_option linter.unusedSimpArgs false in
theorem only_32 (c : Cm) : c.only 32 = true ↔ c = ⟨c.k, 0, 0, false, 0, false, [], c.t, false, false, 0, 0, 0, 0, 0⟩ := by
  have h1 : c.only 32 = true ↔ c.i = 0 ∧ c.s = 0 ∧ c.z = false ∧ c.n = 0 ∧ c.q = false ∧ c.d = [] ∧ c.l = false ∧ c.c = false ∧ c.b = 0 ∧ c.e = 0 ∧ c.u = 0 ∧ c.m = 0 ∧ c.o = 0 := by
    simp only [Cm.only, onlyN, flN, orb_fb, beq_iff_eq, Nat.and_or_distrib_right, Nat.or_eq_zero_iff, fb_and, Nat.zero_and]
    simp [fb_zero, fb_eq, and_assoc]
  rw [h1]
  obtain ⟨k, i, s, z, n, q, d, t, l, cc, b, e, u, m, o⟩ := c
  simp
set_option linter.unusedSimpArgs false in
theorem only_4097 (c : Cm) : c.only 4097 = true ↔ c = ⟨c.k, c.i, c.s, false, 0, false, [], false, false, false, 0, 0, 0, 0, c.o⟩ := by
  have h1 : c.only 4097 = true ↔ c.z = false ∧ c.n = 0 ∧ c.q = false ∧ c.d = [] ∧ c.t = false ∧ c.l = false ∧ c.c = false ∧ c.b = 0 ∧ c.e = 0 ∧ c.u = 0 ∧ c.m = 0 := by
    simp only [Cm.only, onlyN, flN, orb_fb, beq_iff_eq, Nat.and_or_distrib_right, Nat.or_eq_zero_iff, fb_and, Nat.zero_and]
    simp [fb_zero, fb_eq, and_assoc]
  rw [h1]
  obtain ⟨k, i, s, z, n, q, d, t, l, cc, b, e, u, m, o⟩ := c
  simp
set_option linter.unusedSimpArgs false in
theorem only_3072 (c : Cm) : c.only 3072 = true ↔ c = ⟨c.k, 0, 0, false, 0, false, [], false, false, false, 0, 0, c.u, c.m, 0⟩ := by
  have h1 : c.only 3072 = true ↔ c.i = 0 ∧ c.s = 0 ∧ c.z = false ∧ c.n = 0 ∧ c.q = false ∧ c.d = [] ∧ c.t = false ∧ c.l = false ∧ c.c = false ∧ c.b = 0 ∧ c.e = 0 ∧ c.o = 0 := by
    simp only [Cm.only, onlyN, flN, orb_fb, beq_iff_eq, Nat.and_or_distrib_right, Nat.or_eq_zero_iff, fb_and, Nat.zero_and]
    simp [fb_zero, fb_eq, and_assoc]
  rw [h1]
  obtain ⟨k, i, s, z, n, q, d, t, l, cc, b, e, u, m, o⟩ := c
  simp
set_option linter.unusedSimpArgs false in
theorem only_385 (c : Cm) : c.only 385 = true ↔ c = ⟨c.k, c.i, c.s, false, 0, false, [], false, false, c.c, c.b, 0, 0, 0, 0⟩ := by
  have h1 : c.only 385 = true ↔ c.z = false ∧ c.n = 0 ∧ c.q = false ∧ c.d = [] ∧ c.t = false ∧ c.l = false ∧ c.e = 0 ∧ c.u = 0 ∧ c.m = 0 ∧ c.o = 0 := by
    simp only [Cm.only, onlyN, flN, orb_fb, beq_iff_eq, Nat.and_or_distrib_right, Nat.or_eq_zero_iff, fb_and, Nat.zero_and]
    simp [fb_zero, fb_eq, and_assoc]
  rw [h1]
  obtain ⟨k, i, s, z, n, q, d, t, l, cc, b, e, u, m, o⟩ := c
  simp
set_option linter.unusedSimpArgs false in
theorem only_768 (c : Cm) : c.only 768 = true ↔ c = ⟨c.k, 0, 0, false, 0, false, [], false, false, false, c.b, c.e, 0, 0, 0⟩ := by
  have h1 : c.only 768 = true ↔ c.i = 0 ∧ c.s = 0 ∧ c.z = false ∧ c.n = 0 ∧ c.q = false ∧ c.d = [] ∧ c.t = false ∧ c.l = false ∧ c.c = false ∧ c.u = 0 ∧ c.m = 0 ∧ c.o = 0 := by
    simp only [Cm.only, onlyN, flN, orb_fb, beq_iff_eq, Nat.and_or_distrib_right, Nat.or_eq_zero_iff, fb_and, Nat.zero_and]
    simp [fb_zero, fb_eq, and_assoc]
  rw [h1]
  obtain ⟨k, i, s, z, n, q, d, t, l, cc, b, e, u, m, o⟩ := c
  simp
set_option linter.unusedSimpArgs false in
theorem only_135 (c : Cm) : c.only 135 = true ↔ c = ⟨c.k, c.i, c.s, c.z, c.n, false, [], false, false, c.c, 0, 0, 0, 0, 0⟩ := by
  have h1 : c.only 135 = true ↔ c.q = false ∧ c.d = [] ∧ c.t = false ∧ c.l = false ∧ c.b = 0 ∧ c.e = 0 ∧ c.u = 0 ∧ c.m = 0 ∧ c.o = 0 := by
    simp only [Cm.only, onlyN, flN, orb_fb, beq_iff_eq, Nat.and_or_distrib_right, Nat.or_eq_zero_iff, fb_and, Nat.zero_and]
    simp [fb_zero, fb_eq, and_assoc]
  rw [h1]
  obtain ⟨k, i, s, z, n, q, d, t, l, cc, b, e, u, m, o⟩ := c
  simp
set_option linter.unusedSimpArgs false in
theorem only_27 (c : Cm) : c.only 27 = true ↔ c = ⟨c.k, c.i, c.s, c.z, 0, c.q, c.d, false, false, false, 0, 0, 0, 0, 0⟩ := by
  have h1 : c.only 27 = true ↔ c.n = 0 ∧ c.t = false ∧ c.l = false ∧ c.c = false ∧ c.b = 0 ∧ c.e = 0 ∧ c.u = 0 ∧ c.m = 0 ∧ c.o = 0 := by
    simp only [Cm.only, onlyN, flN, orb_fb, beq_iff_eq, Nat.and_or_distrib_right, Nat.or_eq_zero_iff, fb_and, Nat.zero_and]
    simp [fb_zero, fb_eq, and_assoc]
  rw [h1]
  obtain ⟨k, i, s, z, n, q, d, t, l, cc, b, e, u, m, o⟩ := c
  simp
set_option linter.unusedSimpArgs false in
theorem only_7 (c : Cm) : c.only 7 = true ↔ c = ⟨c.k, c.i, c.s, c.z, c.n, false, [], false, false, false, 0, 0, 0, 0, 0⟩ := by
  have h1 : c.only 7 = true ↔ c.q = false ∧ c.d = [] ∧ c.t = false ∧ c.l = false ∧ c.c = false ∧ c.b = 0 ∧ c.e = 0 ∧ c.u = 0 ∧ c.m = 0 ∧ c.o = 0 := by
    simp only [Cm.only, onlyN, flN, orb_fb, beq_iff_eq, Nat.and_or_distrib_right, Nat.or_eq_zero_iff, fb_and, Nat.zero_and]
    simp [fb_zero, fb_eq, and_assoc]
  rw [h1]
  obtain ⟨k, i, s, z, n, q, d, t, l, cc, b, e, u, m, o⟩ := c
  simp
set_option linter.unusedSimpArgs false in
theorem only_112 (c : Cm) : c.only 112 = true ↔ c = ⟨c.k, 0, 0, false, 0, false, c.d, c.t, c.l, false, 0, 0, 0, 0, 0⟩ := by
  have h1 : c.only 112 = true ↔ c.i = 0 ∧ c.s = 0 ∧ c.z = false ∧ c.n = 0 ∧ c.q = false ∧ c.c = false ∧ c.b = 0 ∧ c.e = 0 ∧ c.u = 0 ∧ c.m = 0 ∧ c.o = 0 := by
    simp only [Cm.only, onlyN, flN, orb_fb, beq_iff_eq, Nat.and_or_distrib_right, Nat.or_eq_zero_iff, fb_and, Nat.zero_and]
    simp [fb_zero, fb_eq, and_assoc]
  rw [h1]
  obtain ⟨k, i, s, z, n, q, d, t, l, cc, b, e, u, m, o⟩ := c
  simp
#print axioms only_0
#print axioms only_1
#print axioms only_32
#print axioms only_4097
#print axioms only_3072
#print axioms only_385
#print axioms only_768
#print axioms only_135
#print axioms only_27
#print axioms only_7
#print axioms only_112
end Go.Proofs.Ytlnlejdjekbipaa
