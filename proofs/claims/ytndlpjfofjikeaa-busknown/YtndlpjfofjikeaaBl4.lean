/-
  The walks of the sort's reverseRange, order2, median, medianAdjacent and choosePivot.
-/
import Derived.Test.YtndlpjfofjikeaaBj4
namespace Go.Proofs.Ytndlpjfofjikeaa
open Go.RowKit

theorem IsA.kp {w w' : World} {base g N cap : Nat} {d : Array Sn} {S : List Nat} (h : IsA w base g N cap d) (k : Kp S w w') (hg : g ∉ S) : IsA w' base g N cap d := by
  have hl := h.own.lt g rfl
  refine ⟨h.size, h.own.1, ?_⟩
  rcases h.own.2 with ⟨h1, _⟩ | ⟨g', cap', cur, hv, h2, hh, r⟩
  · cases h1
  · cases hv
    exact .inr ⟨g, cap, cur, rfl, h2, by rw [k.block g hl.2 hg]; exact hh, r⟩
theorem IsA.lt {w : World} {base g N cap : Nat} {d : Array Sn} (h : IsA w base g N cap d) : base ≤ g ∧ g < w.heap.size := h.own.lt g rfl
theorem rev_stop (i j : Nat) (d : Array Sn) (h : ¬ i < j) : Go.Sort.reverseLoop i j d = d := by unfold Go.Sort.reverseLoop; rw [if_neg h]
theorem rev_go (i j : Nat) (d : Array Sn) (h : i < j) : Go.Sort.reverseLoop i j d = Go.Sort.reverseLoop (i + 1) (j - 1) (Go.Sort.swp d i j) := by
  conv => lhs; unfold Go.Sort.reverseLoop
  rw [if_pos h]

set_option linter.unusedSimpArgs false in
set_option maxHeartbeats 4000000 in
set_option maxRecDepth 100000 in
theorem reverseRange_any {w : World} {base g N cap : Nat} {d : Array Sn} (h : IsA w base g N cap d) (a b : Nat) (hab : a < b) (hb : b ≤ N) (hN : N ≤ 1000000) :
    Calls Try.prog 53 #[.iface 59 (.agg #[.slice (some ⟨g, 0, none⟩) N cap]), .int .i64 (a : Int), .int .i64 (b : Int)] w fun e w' => e = .returned (.tuple #[]) ∧ IsA w' base g N cap (Go.Sort.reverseRange d a b) ∧ Kp [g] w w' := by
  obtain ⟨T, hT⟩ : ∃ T, Hid (T = Go.Sort.reverseRange d a b) := ⟨_, rfl⟩
  rw [← hT.out]
  obtain ⟨B1, hB1⟩ : ∃ B1, Hid (B1 = b - 1) := ⟨_, rfl⟩
  have wb : IntKind.i64.wrap ((b : Int) - 1) = (B1 : Int) := by rw [hB1.out, IntKind.wrap_i64]; omega
  have INI : Hid (∃ (i j : Nat) (e : Array Sn), Value.int .i64 (a : Int) = .int .i64 (i : Int) ∧ Value.int .i64 (B1 : Int) = .int .i64 (j : Int) ∧ j < N ∧ i ≤ N ∧ Go.Sort.reverseLoop i j e = T ∧ IsA w base g N cap e ∧ Kp [g] w w) := ⟨a, B1, d, rfl, rfl, by have := hB1.out; omega, by omega, by rw [hT.out, hB1.out]; rfl, h, Kp.refl _ _⟩
  clear h hT
  go_enter Try.func53, Try.ntmps53
  go_wp2_with fail
  go_loopw [6, 7] (fun u v wr => ∃ (i j : Nat) (e : Array Sn), u = .int .i64 (i : Int) ∧ v = .int .i64 (j : Int) ∧ j < N ∧ i ≤ N ∧ Go.Sort.reverseLoop i j e = T ∧ IsA wr base g N cap e ∧ Kp [g] w wr) (fun _ v _ => (intOf v).toNat)
  case atStart => exact INI.out
  case round =>
    clear INI
    obtain ⟨i, j, e, rfl, rfl, hj, hi, he, hA, hK⟩ := hrel
    by_cases hlt : i < j
    · have gi : (i : Int) < (j : Int) := by omega
      obtain ⟨J, hJ⟩ : ∃ J, Hid (J = j - 1) := ⟨_, rfl⟩
      have wj : IntKind.i64.wrap ((j : Int) - 1) = (J : Int) := by rw [hJ.out, IntKind.wrap_i64]; omega
      have wi : IntKind.i64.wrap ((i : Int) + 1) = ((i + 1 : Nat) : Int) := by rw [IntKind.wrap_i64]; omega
      rw [rev_go i j e hlt, ← hJ.out] at he
      have HE : Hid _ := he
      have SW := swapA hA i j (by omega) hj
      have M2 := meth_swapV 234 (by decide) (some ⟨g, 0, none⟩) N cap
      clear he hA
      go_wp2_with fail
      refine SW.mono ?_
      rintro e9 z ⟨rfl, A2, k2⟩
      clear SW M2
      have R2 : Hid (IsA z base g N cap (Go.Sort.swp e i j) ∧ Kp [g] w z) := ⟨A2, hK.trans k2⟩
      clear A2 k2 hK
      go_wp2_with fail
      have q := hJ.out
      exact ⟨⟨i + 1, J, _, by first | rfl | go_num, rfl, by omega, by omega, HE.out, R2.out⟩, by simp [intOf]; omega⟩
    · have gi : ¬ (i : Int) < (j : Int) := by omega
      rw [rev_stop i j e hlt] at he
      subst he
      have RES : Hid _ := hA
      clear hA
      go_wp2_with fail
      go_end0
      exact ⟨rfl, RES.out, hK⟩
#print axioms reverseRange_any

/-- A counter in memory. -/
structure IsC (w : World) (q c : Nat) : Prop where
  heap : w.heap[q]? = some (.cells #[.int .i64 (c : Int)] 3 (0, 0))
theorem IsC.c0 {w : World} {q c : Nat} (h : IsC w q c) : w.cell? ⟨q, 0, none⟩ = some (.int .i64 (c : Int)) := by rw [cell_of_row w q 0 _ _ _ h.heap]; rfl
theorem IsC.fz {w : World} {q c : Nat} (h : IsC w q c) : w.frozen? ⟨q, 0, none⟩ = false := frozen_of_row w q 0 _ _ h.heap
theorem IsC.next {w w' : World} {q c : Nat} (h : IsC w q c) (k : Below w.heap.size w w') : IsC w' q c := ⟨by rw [k.block q (lt_of_heap h.heap)]; exact h.heap⟩
theorem IsC.set {w : World} {q c : Nat} (h : IsC w q c) (x : Nat) : IsC (w.setCell ⟨q, 0, none⟩ (.int .i64 (x : Int))) q x := ⟨by rw [heap_setCell_same w q 0 _ _ _ h.heap]; rfl⟩

set_option linter.unusedSimpArgs false in
set_option maxHeartbeats 4000000 in
set_option maxRecDepth 100000 in
theorem order2_any {w : World} {base g N cap : Nat} {d : Array Sn} (h : IsA w base g N cap d) {q c : Nat} (hq : IsC w q c) (hne : q ≠ g) (a b : Nat) (ha : a < N) (hb : b < N) (hc : c ≤ 1000) :
    Calls Try.prog 62 #[.iface 59 (.agg #[.slice (some ⟨g, 0, none⟩) N cap]), .int .i64 (a : Int), .int .i64 (b : Int), .pointer (some ⟨q, 0, none⟩)] w fun e w' => e = .returned (.tuple #[.int .i64 ((Go.Sort.order2 aheadB d a b c).1 : Int), .int .i64 ((Go.Sort.order2 aheadB d a b c).2.1 : Int)]) ∧ IsA w' base g N cap d ∧ IsC w' q (Go.Sort.order2 aheadB d a b c).2.2 ∧ Kp [q] w w' := by
  have L1 := lessA h b a hb ha
  have M1 := meth_lessV 234 (by decide) (some ⟨g, 0, none⟩) N cap
  have HA : Hid (IsA w base g N cap d) := h
  have HQ : Hid (IsC w q c) := hq
  clear h hq
  unfold Go.Sort.order2
  cases hl : aheadB d[b]! d[a]! with
  | true =>
    rw [if_pos (by rfl)]
    rw [hl] at L1
    have wc : IntKind.i64.wrap ((c : Int) + 1) = ((c + 1 : Nat) : Int) := by rw [IntKind.wrap_i64]; omega
    clear hl
    go_enter Try.func62, Try.ntmps62
    go_wp2_with fail
    refine L1.mono ?_
    rintro e z ⟨rfl, bz⟩
    clear L1 M1
    have Qz := HQ.out.next bz
    have q0 := Qz.c0
    have qf := Qz.fz
    have K1 : Kp [q] w (z.setCell ⟨q, 0, none⟩ (.int .i64 ((c + 1 : Nat) : Int))) := (Kp.of bz).set _ _ (.inl (by simp))
    have RES : Hid (IsA (z.setCell ⟨q, 0, none⟩ (.int .i64 ((c + 1 : Nat) : Int))) base g N cap d ∧ IsC (z.setCell ⟨q, 0, none⟩ (.int .i64 ((c + 1 : Nat) : Int))) q (c + 1) ∧ Kp [q] w (z.setCell ⟨q, 0, none⟩ (.int .i64 ((c + 1 : Nat) : Int)))) := ⟨HA.out.kp K1 (by simp; omega), Qz.set (c + 1), K1⟩
    obtain ⟨C1, hC1⟩ : ∃ C1, Hid (C1 = c + 1) := ⟨_, rfl⟩
    rw [← hC1.out] at wc RES
    clear Qz K1 bz
    go_wp2_with fail
    go_ret2
    have RR := RES.out
    rw [hC1.out] at RR ⊢
    exact ⟨rfl, RR⟩
  | false =>
    rw [if_neg (by decide)]
    rw [hl] at L1
    clear hl
    go_enter Try.func62, Try.ntmps62
    go_wp2_with fail
    refine L1.mono ?_
    rintro e z ⟨rfl, bz⟩
    clear L1 M1
    have RES : Hid (IsA z base g N cap d ∧ IsC z q c ∧ Kp [q] w z) := ⟨HA.out.next bz, HQ.out.next bz, Kp.of bz⟩
    clear bz
    go_wp2_with fail
    go_ret2
    exact ⟨rfl, RES.out⟩
#print axioms order2_any
theorem order2_in (d : Array Sn) (a b c : Nat) : ((Go.Sort.order2 aheadB d a b c).1 = a ∨ (Go.Sort.order2 aheadB d a b c).1 = b) ∧ ((Go.Sort.order2 aheadB d a b c).2.1 = a ∨ (Go.Sort.order2 aheadB d a b c).2.1 = b) ∧ (Go.Sort.order2 aheadB d a b c).2.2 ≤ c + 1 := by
  unfold Go.Sort.order2
  split
  · exact ⟨.inr rfl, .inl rfl, Nat.le_refl _⟩
  · exact ⟨.inl rfl, .inr rfl, by show c ≤ c + 1; omega⟩

set_option linter.unusedSimpArgs false in
set_option maxHeartbeats 4000000 in
set_option maxRecDepth 100000 in
theorem median_any {w : World} {base g N cap : Nat} {d : Array Sn} (h : IsA w base g N cap d) {q c : Nat} (hq : IsC w q c) (hne : q ≠ g) (a b e : Nat) (ha : a < N) (hb : b < N) (he : e < N) (hc : c ≤ 900) :
    Calls Try.prog 61 #[.iface 59 (.agg #[.slice (some ⟨g, 0, none⟩) N cap]), .int .i64 (a : Int), .int .i64 (b : Int), .int .i64 (e : Int), .pointer (some ⟨q, 0, none⟩)] w fun r w' => r = .returned (.int .i64 ((Go.Sort.median aheadB d a b e c).1 : Int)) ∧ IsA w' base g N cap d ∧ IsC w' q (Go.Sort.median aheadB d a b e c).2 ∧ Kp [q] w w' := by
  have C1 := order2_any h hq hne a b ha hb (by omega)
  have q1 := order2_in d a b c
  have UN : Hid (Go.Sort.median aheadB d a b e c = ((Go.Sort.order2 aheadB d (Go.Sort.order2 aheadB d a b c).1 (Go.Sort.order2 aheadB d (Go.Sort.order2 aheadB d a b c).2.1 e (Go.Sort.order2 aheadB d a b c).2.2).1 (Go.Sort.order2 aheadB d (Go.Sort.order2 aheadB d a b c).2.1 e (Go.Sort.order2 aheadB d a b c).2.2).2.2).2.1, (Go.Sort.order2 aheadB d (Go.Sort.order2 aheadB d a b c).1 (Go.Sort.order2 aheadB d (Go.Sort.order2 aheadB d a b c).2.1 e (Go.Sort.order2 aheadB d a b c).2.2).1 (Go.Sort.order2 aheadB d (Go.Sort.order2 aheadB d a b c).2.1 e (Go.Sort.order2 aheadB d a b c).2.2).2.2).2.2)) := rfl
  rw [UN.out]
  generalize Go.Sort.order2 aheadB d a b c = R1 at *
  obtain ⟨x1, y1, c1⟩ := R1
  dsimp only at *
  have q2 := order2_in d y1 e c1
  have C2 : Hid (∀ z, IsA z base g N cap d → IsC z q c1 → Calls Try.prog 62 #[.iface 59 (.agg #[.slice (some ⟨g, 0, none⟩) N cap]), .int .i64 (y1 : Int), .int .i64 (e : Int), .pointer (some ⟨q, 0, none⟩)] z fun e' w' => e' = .returned (.tuple #[.int .i64 ((Go.Sort.order2 aheadB d y1 e c1).1 : Int), .int .i64 ((Go.Sort.order2 aheadB d y1 e c1).2.1 : Int)]) ∧ IsA w' base g N cap d ∧ IsC w' q (Go.Sort.order2 aheadB d y1 e c1).2.2 ∧ Kp [q] z w') := fun z hz hqz => order2_any hz hqz hne y1 e (by omega) he (by omega)
  clear UN
  generalize Go.Sort.order2 aheadB d y1 e c1 = R2 at *
  obtain ⟨x2, y2, c2⟩ := R2
  dsimp only at *
  have C3 : Hid (∀ z, IsA z base g N cap d → IsC z q c2 → Calls Try.prog 62 #[.iface 59 (.agg #[.slice (some ⟨g, 0, none⟩) N cap]), .int .i64 (x1 : Int), .int .i64 (x2 : Int), .pointer (some ⟨q, 0, none⟩)] z fun e' w' => e' = .returned (.tuple #[.int .i64 ((Go.Sort.order2 aheadB d x1 x2 c2).1 : Int), .int .i64 ((Go.Sort.order2 aheadB d x1 x2 c2).2.1 : Int)]) ∧ IsA w' base g N cap d ∧ IsC w' q (Go.Sort.order2 aheadB d x1 x2 c2).2.2 ∧ Kp [q] z w') := fun z hz hqz => order2_any hz hqz hne x1 x2 (by omega) (by omega) (by omega)
  generalize Go.Sort.order2 aheadB d x1 x2 c2 = R3 at *
  obtain ⟨x3, y3, c3⟩ := R3
  dsimp only at *
  clear h hq q1 q2
  go_enter Try.func61, Try.ntmps61
  go_wp2_with fail
  refine C1.mono ?_
  rintro e9 z1 ⟨rfl, A1, Q1, k1⟩
  have C2' := C2.out z1 A1 Q1
  have K1 : Hid _ := k1
  clear C1 C2 A1 Q1 k1
  go_wp2_with fail
  refine C2'.mono ?_
  rintro e9 z2 ⟨rfl, A2, Q2, k2⟩
  have C3' := C3.out z2 A2 Q2
  have K2 : Hid (Kp [q] w z2) := K1.out.trans k2
  clear C2' C3 A2 Q2 k2 K1
  go_wp2_with fail
  refine C3'.mono ?_
  rintro e9 z3 ⟨rfl, A3, Q3, k3⟩
  have RES : Hid (IsA z3 base g N cap d ∧ IsC z3 q c3 ∧ Kp [q] w z3) := ⟨A3, Q3, K2.out.trans k3⟩
  clear C3' A3 Q3 k3 K2
  go_wp2_with fail
  go_ret
  exact ⟨rfl, RES.out⟩
#print axioms median_any
theorem median_in (d : Array Sn) (a b e c : Nat) : ((Go.Sort.median aheadB d a b e c).1 = a ∨ (Go.Sort.median aheadB d a b e c).1 = b ∨ (Go.Sort.median aheadB d a b e c).1 = e) ∧ (Go.Sort.median aheadB d a b e c).2 ≤ c + 3 := by
  unfold Go.Sort.median
  dsimp only
  have q1 := order2_in d a b c
  generalize Go.Sort.order2 aheadB d a b c = R1 at *
  obtain ⟨x1, y1, c1⟩ := R1
  dsimp only at *
  have q2 := order2_in d y1 e c1
  generalize Go.Sort.order2 aheadB d y1 e c1 = R2 at *
  obtain ⟨x2, y2, c2⟩ := R2
  dsimp only at *
  have q3 := order2_in d x1 x2 c2
  generalize Go.Sort.order2 aheadB d x1 x2 c2 = R3 at *
  obtain ⟨x3, y3, c3⟩ := R3
  dsimp only at *
  omega

set_option linter.unusedSimpArgs false in
set_option maxHeartbeats 4000000 in
set_option maxRecDepth 100000 in
theorem medianAdjacent_any {w : World} {base g N cap : Nat} {d : Array Sn} (h : IsA w base g N cap d) {q c : Nat} (hq : IsC w q c) (hne : q ≠ g) (a : Nat) (h0 : 0 < a) (ha : a + 1 < N) (hN : N ≤ 1000000) (hc : c ≤ 900) :
    Calls Try.prog 60 #[.iface 59 (.agg #[.slice (some ⟨g, 0, none⟩) N cap]), .int .i64 (a : Int), .pointer (some ⟨q, 0, none⟩)] w fun r w' => r = .returned (.int .i64 ((Go.Sort.medianAdjacent aheadB d a c).1 : Int)) ∧ IsA w' base g N cap d ∧ IsC w' q (Go.Sort.medianAdjacent aheadB d a c).2 ∧ Kp [q] w w' := by
  have C1 := median_any h hq hne (a - 1) a (a + 1) (by omega) (by omega) (by omega) hc
  unfold Go.Sort.medianAdjacent
  have w1 : IntKind.i64.wrap ((a : Int) - 1) = ((a - 1 : Nat) : Int) := by rw [IntKind.wrap_i64]; omega
  have w2 : IntKind.i64.wrap ((a : Int) + 1) = ((a + 1 : Nat) : Int) := by rw [IntKind.wrap_i64]; omega
  generalize Go.Sort.median aheadB d (a - 1) a (a + 1) c = R at *
  obtain ⟨A0, hA0⟩ : ∃ A0, A0 = a - 1 := ⟨_, rfl⟩
  obtain ⟨A2, hA2⟩ : ∃ A2, A2 = a + 1 := ⟨_, rfl⟩
  rw [← hA0] at w1 C1
  rw [← hA2] at w2 C1
  clear h hq hA0 hA2
  go_enter Try.func60, Try.ntmps60
  go_wp2_with fail
  refine C1.mono ?_
  rintro e9 z1 ⟨rfl, A1, Q1, k1⟩
  have RES : Hid (IsA z1 base g N cap d ∧ IsC z1 q R.2 ∧ Kp [q] w z1) := ⟨A1, Q1, k1⟩
  clear C1 A1 Q1 k1
  go_wp2_with fail
  go_ret
  exact ⟨rfl, RES.out⟩
#print axioms medianAdjacent_any
end Go.Proofs.Ytndlpjfofjikeaa
