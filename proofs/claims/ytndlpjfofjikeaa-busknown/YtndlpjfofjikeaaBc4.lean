/-
  The walk of the sort's choosePivot.
-/
import Derived.Test.YtndlpjfofjikeaaBl4
namespace Go.Proofs.Ytndlpjfofjikeaa
open Go.RowKit

/-- A hint's number. -/
def hintV : Go.Sort.Hint → Int
  | .unknown => 0
  | .increasing => 1
  | .decreasing => 2
def hintOf (c : Nat) : Go.Sort.Hint := if c = 0 then .increasing else if c = 12 then .decreasing else .unknown
theorem Kp.fin {w z : World} {o : Obj} (k : Kp [w.heap.size] (w.alloc o) z) : Below w.heap.size w z := by
  have h : Below w.heap.size w (w.alloc o) := Below.al (Below.refl _ _) o
  exact Kp.below h k h.size (by intro i hi; simp at hi; omega)

set_option linter.unusedSimpArgs false in
set_option maxHeartbeats 4000000 in
set_option maxRecDepth 100000 in
theorem choosePivot_8 {w : World} {base g N cap : Nat} {d : Array Sn} (h : IsA w base g N cap d) (a b : Nat) (hb : b ≤ N) (hN : N ≤ 1000000) (hl8 : 8 ≤ b - a) (hl50 : b - a < 50) : Calls Try.prog 52 #[.iface 59 (.agg #[.slice (some ⟨g, 0, none⟩) N cap]), .int .i64 (a : Int), .int .i64 (b : Int)] w fun e w' => e = .returned (.tuple #[.int .i64 ((Go.Sort.choosePivot aheadB d a b).1 : Int), .int .i64 (hintV (Go.Sort.choosePivot aheadB d a b).2)]) ∧ IsA w' base g N cap d ∧ Below w.heap.size w w' := by
  obtain ⟨L, hL⟩ : ∃ L, Hid (L = b - a) := ⟨_, rfl⟩
  obtain ⟨Q4, hQ4⟩ : ∃ Q, Hid (Q = (b - a) / 4) := ⟨_, rfl⟩
  obtain ⟨E2, hE2⟩ : ∃ Q, Hid (Q = (b - a) / 4 * 2) := ⟨_, rfl⟩
  obtain ⟨E3, hE3⟩ : ∃ Q, Hid (Q = (b - a) / 4 * 3) := ⟨_, rfl⟩
  obtain ⟨i, hi⟩ : ∃ Q, Hid (Q = a + (b - a) / 4 * 1) := ⟨_, rfl⟩
  obtain ⟨j, hj⟩ : ∃ Q, Hid (Q = a + (b - a) / 4 * 2) := ⟨_, rfl⟩
  obtain ⟨k, hk⟩ : ∃ Q, Hid (Q = a + (b - a) / 4 * 3) := ⟨_, rfl⟩
  have wL : IntKind.i64.wrap ((b : Int) - (a : Int)) = (L : Int) := by rw [hL.out, IntKind.wrap_i64]; omega
  have tq : (L : Int).tdiv 4 = (Q4 : Int) := by rw [hL.out, hQ4.out, Int.tdiv_eq_ediv_of_nonneg (by omega)]; omega
  have wq : IntKind.i64.wrap (Q4 : Int) = (Q4 : Int) := by rw [hQ4.out, IntKind.wrap_i64]; omega
  have w2 : IntKind.i64.wrap ((Q4 : Int) * 2) = (E2 : Int) := by rw [hQ4.out, hE2.out, IntKind.wrap_i64]; omega
  have w3 : IntKind.i64.wrap ((Q4 : Int) * 3) = (E3 : Int) := by rw [hQ4.out, hE3.out, IntKind.wrap_i64]; omega
  have wi : IntKind.i64.wrap ((a : Int) + (Q4 : Int)) = (i : Int) := by rw [hQ4.out, hi.out, IntKind.wrap_i64]; omega
  have wj : IntKind.i64.wrap ((a : Int) + (E2 : Int)) = (j : Int) := by rw [hE2.out, hj.out, IntKind.wrap_i64]; omega
  have wk : IntKind.i64.wrap ((a : Int) + (E3 : Int)) = (k : Int) := by rw [hE3.out, hk.out, IntKind.wrap_i64]; omega
  have l8 : (8 : Int) ≤ (L : Int) := by rw [hL.out]; omega
  have HA : Hid (∀ z, Below w.heap.size w z → IsA z base g N cap d) := fun z hz => h.next hz
  have hgl := h.lt
  have ijk : i + 1 < N ∧ j + 1 < N ∧ k + 1 < N ∧ 0 < i ∧ 0 < j ∧ 0 < k := by rw [hi.out, hj.out, hk.out]; omega
  have NW : Hid (IsC (w.alloc (.cells #[.int .i64 0] 3)) w.heap.size 0) := ⟨heap_alloc_last w _⟩
  have A0 : Hid (IsA (w.alloc (.cells #[.int .i64 0] 3)) base g N cap d) := h.next (Below.al (Below.refl _ _) _)
  have l50 : ¬ (50 : Int) ≤ (L : Int) := by rw [hL.out]; omega
  have UN : Hid (Go.Sort.choosePivot aheadB d a b = ((Go.Sort.median aheadB d i j k 0).1, hintOf (Go.Sort.median aheadB d i j k 0).2)) := by
    show _ = _
    unfold Go.Sort.choosePivot hintOf
    dsimp only
    rw [if_pos hl8, if_neg (by omega), ← hi.out, ← hj.out, ← hk.out]
  rw [UN.out]
  have C1 := median_any A0.out NW.out (by omega) i j k (by omega) (by omega) (by omega) (by omega)
  generalize Go.Sort.median aheadB d i j k 0 = M at *
  obtain ⟨X, C⟩ := M
  dsimp only at *
  clear h UN
  go_enter Try.func52, Try.ntmps52
  go_wp2_with fail
  refine C1.mono ?_
  rintro e9 z ⟨rfl, A1, Q1, k1⟩
  clear C1
  have Qz : Hid (IsC z w.heap.size C) := Q1
  have R9 : Hid (IsA z base g N cap d ∧ Below w.heap.size w z) := ⟨A1, Kp.fin k1⟩
  clear A1 Q1 k1 HA NW A0
  have c0 := Qz.out.c0
  by_cases e0 : C = 0
  · have HH : Hid (hintV (hintOf C) = 1) := by show _ = _; unfold hintOf; rw [if_pos e0]; rfl
    rw [e0] at c0
    go_wp2_with fail
    go_ret2
    rw [HH.out]
    exact ⟨rfl, R9.out⟩
  have n0 : ((C : Int) == 0) = false := by simp; omega
  by_cases e1 : C = 12
  · have HH : Hid (hintV (hintOf C) = 2) := by show _ = _; unfold hintOf; rw [if_neg e0, if_pos e1]; rfl
    rw [e1] at c0
    go_wp2_with fail
    go_ret2
    rw [HH.out]
    exact ⟨rfl, R9.out⟩
  have n1 : ((C : Int) == 12) = false := by simp; omega
  have HH : Hid (hintV (hintOf C) = 0) := by show _ = _; unfold hintOf; rw [if_neg e0, if_neg e1]; rfl
  go_wp2_with fail
  go_ret2
  rw [HH.out]
  exact ⟨rfl, R9.out⟩
#print axioms choosePivot_8
theorem medAdj_in (d : Array Sn) (a c : Nat) : ((Go.Sort.medianAdjacent aheadB d a c).1 = a - 1 ∨ (Go.Sort.medianAdjacent aheadB d a c).1 = a ∨ (Go.Sort.medianAdjacent aheadB d a c).1 = a + 1) ∧ (Go.Sort.medianAdjacent aheadB d a c).2 ≤ c + 3 := median_in d (a - 1) a (a + 1) c

set_option linter.unusedSimpArgs false in
set_option maxHeartbeats 4000000 in
set_option maxRecDepth 100000 in
theorem choosePivot_50 {w : World} {base g N cap : Nat} {d : Array Sn} (h : IsA w base g N cap d) (a b : Nat) (hb : b ≤ N) (hN : N ≤ 1000000) (hl50 : 50 ≤ b - a) : Calls Try.prog 52 #[.iface 59 (.agg #[.slice (some ⟨g, 0, none⟩) N cap]), .int .i64 (a : Int), .int .i64 (b : Int)] w fun e w' => e = .returned (.tuple #[.int .i64 ((Go.Sort.choosePivot aheadB d a b).1 : Int), .int .i64 (hintV (Go.Sort.choosePivot aheadB d a b).2)]) ∧ IsA w' base g N cap d ∧ Below w.heap.size w w' := by
  have hl8 : 8 ≤ b - a := by omega
  obtain ⟨L, hL⟩ : ∃ L, Hid (L = b - a) := ⟨_, rfl⟩
  obtain ⟨Q4, hQ4⟩ : ∃ Q, Hid (Q = (b - a) / 4) := ⟨_, rfl⟩
  obtain ⟨E2, hE2⟩ : ∃ Q, Hid (Q = (b - a) / 4 * 2) := ⟨_, rfl⟩
  obtain ⟨E3, hE3⟩ : ∃ Q, Hid (Q = (b - a) / 4 * 3) := ⟨_, rfl⟩
  obtain ⟨i, hi⟩ : ∃ Q, Hid (Q = a + (b - a) / 4 * 1) := ⟨_, rfl⟩
  obtain ⟨j, hj⟩ : ∃ Q, Hid (Q = a + (b - a) / 4 * 2) := ⟨_, rfl⟩
  obtain ⟨k, hk⟩ : ∃ Q, Hid (Q = a + (b - a) / 4 * 3) := ⟨_, rfl⟩
  have wL : IntKind.i64.wrap ((b : Int) - (a : Int)) = (L : Int) := by rw [hL.out, IntKind.wrap_i64]; omega
  have tq : (L : Int).tdiv 4 = (Q4 : Int) := by rw [hL.out, hQ4.out, Int.tdiv_eq_ediv_of_nonneg (by omega)]; omega
  have wq : IntKind.i64.wrap (Q4 : Int) = (Q4 : Int) := by rw [hQ4.out, IntKind.wrap_i64]; omega
  have w2 : IntKind.i64.wrap ((Q4 : Int) * 2) = (E2 : Int) := by rw [hQ4.out, hE2.out, IntKind.wrap_i64]; omega
  have w3 : IntKind.i64.wrap ((Q4 : Int) * 3) = (E3 : Int) := by rw [hQ4.out, hE3.out, IntKind.wrap_i64]; omega
  have wi : IntKind.i64.wrap ((a : Int) + (Q4 : Int)) = (i : Int) := by rw [hQ4.out, hi.out, IntKind.wrap_i64]; omega
  have wj : IntKind.i64.wrap ((a : Int) + (E2 : Int)) = (j : Int) := by rw [hE2.out, hj.out, IntKind.wrap_i64]; omega
  have wk : IntKind.i64.wrap ((a : Int) + (E3 : Int)) = (k : Int) := by rw [hE3.out, hk.out, IntKind.wrap_i64]; omega
  have l8 : (8 : Int) ≤ (L : Int) := by rw [hL.out]; omega
  have HA : Hid (∀ z, Below w.heap.size w z → IsA z base g N cap d) := fun z hz => h.next hz
  have hgl := h.lt
  have ijk : i + 1 < N ∧ j + 1 < N ∧ k + 1 < N ∧ 0 < i ∧ 0 < j ∧ 0 < k := by rw [hi.out, hj.out, hk.out]; omega
  have NW : Hid (IsC (w.alloc (.cells #[.int .i64 0] 3)) w.heap.size 0) := ⟨heap_alloc_last w _⟩
  have A0 : Hid (IsA (w.alloc (.cells #[.int .i64 0] 3)) base g N cap d) := h.next (Below.al (Below.refl _ _) _)
  have l50 : (50 : Int) ≤ (L : Int) := by rw [hL.out]; omega
  have UN : Hid (Go.Sort.choosePivot aheadB d a b = (let ri := Go.Sort.medianAdjacent aheadB d i 0; let rj := Go.Sort.medianAdjacent aheadB d j ri.2; let rk := Go.Sort.medianAdjacent aheadB d k rj.2; ((Go.Sort.median aheadB d ri.1 rj.1 rk.1 rk.2).1, hintOf (Go.Sort.median aheadB d ri.1 rj.1 rk.1 rk.2).2))) := by
    show _ = _
    unfold Go.Sort.choosePivot hintOf
    dsimp only
    rw [if_pos hl8, if_pos hl50, ← hi.out, ← hj.out, ← hk.out]
  rw [UN.out]
  dsimp only
  clear UN
  have i1 := medAdj_in d i 0
  have C1 : Hid (∀ z, IsA z base g N cap d → IsC z w.heap.size 0 → Calls Try.prog 60 #[.iface 59 (.agg #[.slice (some ⟨g, 0, none⟩) N cap]), .int .i64 (i : Int), .pointer (some ⟨w.heap.size, 0, none⟩)] z fun r w' => r = .returned (.int .i64 ((Go.Sort.medianAdjacent aheadB d i 0).1 : Int)) ∧ IsA w' base g N cap d ∧ IsC w' w.heap.size (Go.Sort.medianAdjacent aheadB d i 0).2 ∧ Kp [w.heap.size] z w') := fun z hz hq => medianAdjacent_any hz hq (by omega) i (by omega) (by omega) hN (by omega)
  generalize Go.Sort.medianAdjacent aheadB d i 0 = M1 at *
  obtain ⟨X1, c1⟩ := M1
  dsimp only at *
  have i2 := medAdj_in d j c1
  have C2 : Hid (∀ z, IsA z base g N cap d → IsC z w.heap.size c1 → Calls Try.prog 60 #[.iface 59 (.agg #[.slice (some ⟨g, 0, none⟩) N cap]), .int .i64 (j : Int), .pointer (some ⟨w.heap.size, 0, none⟩)] z fun r w' => r = .returned (.int .i64 ((Go.Sort.medianAdjacent aheadB d j c1).1 : Int)) ∧ IsA w' base g N cap d ∧ IsC w' w.heap.size (Go.Sort.medianAdjacent aheadB d j c1).2 ∧ Kp [w.heap.size] z w') := fun z hz hq => medianAdjacent_any hz hq (by omega) j (by omega) (by omega) hN (by omega)
  generalize Go.Sort.medianAdjacent aheadB d j c1 = M2 at *
  obtain ⟨X2, c2⟩ := M2
  dsimp only at *
  have i3 := medAdj_in d k c2
  have C3 : Hid (∀ z, IsA z base g N cap d → IsC z w.heap.size c2 → Calls Try.prog 60 #[.iface 59 (.agg #[.slice (some ⟨g, 0, none⟩) N cap]), .int .i64 (k : Int), .pointer (some ⟨w.heap.size, 0, none⟩)] z fun r w' => r = .returned (.int .i64 ((Go.Sort.medianAdjacent aheadB d k c2).1 : Int)) ∧ IsA w' base g N cap d ∧ IsC w' w.heap.size (Go.Sort.medianAdjacent aheadB d k c2).2 ∧ Kp [w.heap.size] z w') := fun z hz hq => medianAdjacent_any hz hq (by omega) k (by omega) (by omega) hN (by omega)
  generalize Go.Sort.medianAdjacent aheadB d k c2 = M3 at *
  obtain ⟨X3, c3⟩ := M3
  dsimp only at *
  have C4 : Hid (∀ z, IsA z base g N cap d → IsC z w.heap.size c3 → Calls Try.prog 61 #[.iface 59 (.agg #[.slice (some ⟨g, 0, none⟩) N cap]), .int .i64 (X1 : Int), .int .i64 (X2 : Int), .int .i64 (X3 : Int), .pointer (some ⟨w.heap.size, 0, none⟩)] z fun r w' => r = .returned (.int .i64 ((Go.Sort.median aheadB d X1 X2 X3 c3).1 : Int)) ∧ IsA w' base g N cap d ∧ IsC w' w.heap.size (Go.Sort.median aheadB d X1 X2 X3 c3).2 ∧ Kp [w.heap.size] z w') := fun z hz hq => median_any hz hq (by omega) X1 X2 X3 (by omega) (by omega) (by omega) (by omega)
  generalize Go.Sort.median aheadB d X1 X2 X3 c3 = M at *
  obtain ⟨X, C⟩ := M
  dsimp only at *
  have C1' := C1.out _ A0.out NW.out
  clear h i1 i2 i3 C1
  go_enter Try.func52, Try.ntmps52
  go_wp2_with fail
  refine C1'.mono ?_
  rintro e9 z1 ⟨rfl, A1, Q1, k1⟩
  have C2' := C2.out z1 A1 Q1
  have K1 : Hid _ := k1
  clear C1' C2 A1 Q1 k1
  go_wp2_with fail
  refine C2'.mono ?_
  rintro e9 z2 ⟨rfl, A2, Q2, k2⟩
  have C3' := C3.out z2 A2 Q2
  have K2 : Hid _ := K1.out.trans k2
  clear C2' C3 A2 Q2 k2 K1
  go_wp2_with fail
  refine C3'.mono ?_
  rintro e9 z3 ⟨rfl, A3, Q3, k3⟩
  have C4' := C4.out z3 A3 Q3
  have K3 : Hid _ := K2.out.trans k3
  clear C3' C4 A3 Q3 k3 K2
  go_wp2_with fail
  refine C4'.mono ?_
  rintro e9 z ⟨rfl, A4, Q4', k4⟩
  have Qz : Hid (IsC z w.heap.size C) := Q4'
  have R9 : Hid (IsA z base g N cap d ∧ Below w.heap.size w z) := ⟨A4, Kp.fin (K3.out.trans k4)⟩
  clear C4' A4 Q4' k4 K3 HA NW A0
  have c0 := Qz.out.c0
  by_cases e0 : C = 0
  · have HH : Hid (hintV (hintOf C) = 1) := by show _ = _; unfold hintOf; rw [if_pos e0]; rfl
    rw [e0] at c0
    go_wp2_with fail
    go_ret2
    rw [HH.out]
    exact ⟨rfl, R9.out⟩
  have n0 : ((C : Int) == 0) = false := by simp; omega
  by_cases e1 : C = 12
  · have HH : Hid (hintV (hintOf C) = 2) := by show _ = _; unfold hintOf; rw [if_neg e0, if_pos e1]; rfl
    rw [e1] at c0
    go_wp2_with fail
    go_ret2
    rw [HH.out]
    exact ⟨rfl, R9.out⟩
  have n1 : ((C : Int) == 12) = false := by simp; omega
  have HH : Hid (hintV (hintOf C) = 0) := by show _ = _; unfold hintOf; rw [if_neg e0, if_neg e1]; rfl
  go_wp2_with fail
  go_ret2
  rw [HH.out]
  exact ⟨rfl, R9.out⟩
#print axioms choosePivot_50
theorem choosePivot_any {w : World} {base g N cap : Nat} {d : Array Sn} (h : IsA w base g N cap d) (a b : Nat) (hb : b ≤ N) (hN : N ≤ 1000000) (hl8 : 8 ≤ b - a) : Calls Try.prog 52 #[.iface 59 (.agg #[.slice (some ⟨g, 0, none⟩) N cap]), .int .i64 (a : Int), .int .i64 (b : Int)] w fun e w' => e = .returned (.tuple #[.int .i64 ((Go.Sort.choosePivot aheadB d a b).1 : Int), .int .i64 (hintV (Go.Sort.choosePivot aheadB d a b).2)]) ∧ IsA w' base g N cap d ∧ Below w.heap.size w w' := by
  by_cases c : b - a < 50
  · exact choosePivot_8 h a b hb hN hl8 c
  · exact choosePivot_50 h a b hb hN (by omega)
end Go.Proofs.Ytndlpjfofjikeaa
