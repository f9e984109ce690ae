/-
  The walks of the sort's siftDown and heapSort.
-/
import Derived.Test.YtndlpjfofjikeaaBi4
namespace Go.Proofs.Ytndlpjfofjikeaa
open Go.RowKit

abbrev sdn (hi first r : Nat) (d : Array Sn) : Array Sn := Go.Sort.siftDown aheadB hi first r d
theorem sd_stop (hi first r : Nat) (d : Array Sn) (h : hi ≤ 2 * r + 1) : sdn hi first r d = d := by
  unfold sdn Go.Sort.siftDown; rw [dif_pos h]
theorem sd_two (hi first r : Nat) (d : Array Sn) (h : 2 * r + 2 < hi) (hl : aheadB d[first + (2 * r + 1)]! d[first + (2 * r + 2)]! = true) : sdn hi first r d = if aheadB d[first + r]! d[first + (2 * r + 2)]! = false then d else sdn hi first (2 * r + 2) (Go.Sort.swp d (first + r) (first + (2 * r + 2))) := by
  conv => lhs; unfold sdn Go.Sort.siftDown
  rw [dif_neg (by omega), if_pos (by rw [show first + (2 * r + 1) + 1 = first + (2 * r + 2) from by omega, hl]; simp; omega), dif_pos h]
  cases aheadB d[first + r]! d[first + (2 * r + 2)]! <;> simp
theorem sd_one (hi first r : Nat) (d : Array Sn) (h : 2 * r + 1 < hi) (hl : ¬ (2 * r + 2 < hi ∧ aheadB d[first + (2 * r + 1)]! d[first + (2 * r + 2)]! = true)) : sdn hi first r d = if aheadB d[first + r]! d[first + (2 * r + 1)]! = false then d else sdn hi first (2 * r + 1) (Go.Sort.swp d (first + r) (first + (2 * r + 1))) := by
  conv => lhs; unfold sdn Go.Sort.siftDown
  rw [dif_neg (by omega), if_neg (by rw [show first + (2 * r + 1) + 1 = first + (2 * r + 2) from by omega]; simpa using hl)]
  cases aheadB d[first + r]! d[first + (2 * r + 1)]! <;> simp

set_option linter.unusedSimpArgs false in
set_option maxHeartbeats 4000000 in
set_option maxRecDepth 100000 in
theorem siftDown_any {w : World} {base g N cap : Nat} {d : Array Sn} (h : IsA w base g N cap d) (lo hi first : Nat) (hb : first + hi ≤ N) (hlo : lo ≤ 1000000) (hN : N ≤ 1000000) :
    Calls Try.prog 57 #[.iface 59 (.agg #[.slice (some ⟨g, 0, none⟩) N cap]), .int .i64 (lo : Int), .int .i64 (hi : Int), .int .i64 (first : Int)] w fun e w' => e = .returned (.tuple #[]) ∧ IsA w' base g N cap (sdn hi first lo d) ∧ Kp [g] w w' := by
  obtain ⟨T, hT⟩ : ∃ T, Hid (T = sdn hi first lo d) := ⟨_, rfl⟩
  rw [← hT.out]
  have INI : Hid (∃ (r : Nat) (e : Array Sn), Value.int .i64 (lo : Int) = .int .i64 (r : Int) ∧ r ≤ 1000000 ∧ sdn hi first r e = T ∧ IsA w base g N cap e ∧ Kp [g] w w) := ⟨lo, d, rfl, hlo, hT.out.symm, h, Kp.refl _ _⟩
  clear h hT
  go_enter Try.func57, Try.ntmps57
  go_wp2_with fail
  go_loopw [8] (fun u wr => ∃ (r : Nat) (e : Array Sn), u = .int .i64 (r : Int) ∧ r ≤ 1000000 ∧ sdn hi first r e = T ∧ IsA wr base g N cap e ∧ Kp [g] w wr) (fun u _ => hi - (intOf u).toNat)
  case atStart => exact INI.out
  case round =>
    clear INI
    obtain ⟨r, e, rfl, hr, he, hA, hK⟩ := hrel
    have HA : Hid (IsA wr base g N cap e) := hA
    clear hA
    obtain ⟨A, hA'⟩ : ∃ A, Hid (A = 2 * r) := ⟨_, rfl⟩
    obtain ⟨J1, hJ1⟩ : ∃ J, Hid (J = 2 * r + 1) := ⟨_, rfl⟩
    obtain ⟨J2, hJ2⟩ : ∃ J, Hid (J = 2 * r + 2) := ⟨_, rfl⟩
    obtain ⟨P1, hP1⟩ : ∃ J, Hid (J = first + (2 * r + 1)) := ⟨_, rfl⟩
    obtain ⟨P2, hP2⟩ : ∃ J, Hid (J = first + (2 * r + 2)) := ⟨_, rfl⟩
    obtain ⟨R, hR⟩ : ∃ J, Hid (J = first + r) := ⟨_, rfl⟩
    have fB : first ≤ 1000000 := by omega
    have w1 : IntKind.i64.wrap (2 * (r : Int)) = (A : Int) := by rw [hA'.out, IntKind.wrap_i64]; omega
    have w2 : IntKind.i64.wrap ((A : Int) + 1) = (J1 : Int) := by rw [hA'.out, hJ1.out, IntKind.wrap_i64]; omega
    have w3 : IntKind.i64.wrap ((J1 : Int) + 1) = (J2 : Int) := by rw [hJ1.out, hJ2.out, IntKind.wrap_i64]; omega
    have w4 : IntKind.i64.wrap ((first : Int) + (J1 : Int)) = (P1 : Int) := by rw [hP1.out, hJ1.out, IntKind.wrap_i64]; omega
    have w5 : IntKind.i64.wrap ((P1 : Int) + 1) = (P2 : Int) := by rw [hP1.out, hP2.out, IntKind.wrap_i64]; omega
    have w6 : IntKind.i64.wrap ((first : Int) + (J2 : Int)) = (P2 : Int) := by rw [hP2.out, hJ2.out, IntKind.wrap_i64]; omega
    have w7 : IntKind.i64.wrap ((first : Int) + (r : Int)) = (R : Int) := by rw [hR.out, IntKind.wrap_i64]; omega
    by_cases g1 : hi ≤ J1
    · have g1' : (hi : Int) ≤ (J1 : Int) := by omega
      rw [sd_stop hi first r e (by rw [← hJ1.out]; exact g1)] at he
      subst he
      clear w3 w4 w5 w6 w7
      go_wp2_with fail
      first | go_end0 | refine bodyPost_ret (v := .tuple #[]) (by simp [results, Try.results57, go_sem]) rfl ?_
      exact ⟨rfl, HA.out, hK⟩
    have g1' : ¬ (hi : Int) ≤ (J1 : Int) := by omega
    have LES : Hid (∀ z (x y : Nat), IsA z base g N cap e → x < N → y < N → Calls Try.prog 80 #[.slice (some ⟨g, 0, none⟩) N cap, .int .i64 (x : Int), .int .i64 (y : Int)] z fun e' w' => e' = .returned (.bool (aheadB e[x]! e[y]!)) ∧ Below z.heap.size z w') := fun z x y hz hx hy => lessA hz x y hx hy
    have SWL : Hid (∀ z (x y : Nat), IsA z base g N cap e → x < N → y < N → Calls Try.prog 81 #[.slice (some ⟨g, 0, none⟩) N cap, .int .i64 (x : Int), .int .i64 (y : Int)] z fun e' w' => e' = .returned (.tuple #[]) ∧ IsA w' base g N cap (Go.Sort.swp e x y) ∧ Kp [g] z w') := fun z x y hz hx hy => swapA hz x y hx hy
    have M1 := meth_lessV 234 (by decide) (some ⟨g, 0, none⟩) N cap
    have M2 := meth_swapV 234 (by decide) (some ⟨g, 0, none⟩) N cap
    have b1 : P1 < N := by have := hP1.out; have := hJ1.out; omega
    have b0 : R < N := by have := hR.out; have := hJ1.out; omega
    by_cases g2 : J2 < hi
    · have g2' : (J2 : Int) < (hi : Int) := by omega
      have b2 : P2 < N := by have := hP2.out; have := hJ2.out; omega
      have L1 := LES.out wr P1 P2 HA.out b1 b2
      cases hb1 : aheadB e[P1]! e[P2]! with
      | true =>
        have HE : Hid ((if aheadB e[R]! e[P2]! = false then e else sdn hi first J2 (Go.Sort.swp e R P2)) = T) := by
          show _ = T
          rw [← he, sd_two hi first r e (by rw [← hJ2.out]; exact g2) (by rw [← hP1.out, ← hP2.out]; exact hb1), hR.out, hP2.out, hJ2.out]
        rw [hb1] at L1
        have bP := b2
        clear hb1 he
        go_wp2_with fail
        refine L1.mono ?_
        rintro e9 z1 ⟨rfl, bz1⟩
        clear L1
        have HW : Hid (IsA z1 base g N cap e) := HA.out.next bz1
        have KW : Hid (Kp [g] w z1) := hK.trans (Kp.of bz1)
        clear bz1 hK
        have L2 := LES.out z1 R P2 HW.out b0 bP
        cases hb2 : aheadB e[R]! e[P2]! with
        | false =>
          rw [hb2] at L2 HE
          have HE2 : e = T := by have := HE.out; rw [if_pos rfl] at this; exact this
          subst HE2
          have FIN : Hid (∀ z, Below z1.heap.size z1 z → IsA z base g N cap e ∧ Kp [g] w z) := fun z hz => ⟨HW.out.next hz, KW.out.trans (Kp.of hz)⟩
          clear LES SWL M2 HA HW KW HE hb2
          go_wp2_with fail
          refine L2.mono ?_
          rintro e9 z9 ⟨rfl, bz9⟩
          clear L2 M1
          have F9 : Hid _ := FIN.out z9 bz9
          go_wp2_with fail
          first | go_end0 | refine bodyPost_ret (v := .tuple #[]) (by simp [results, Try.results57, go_sem]) rfl ?_
          exact ⟨rfl, F9.out⟩
        | true =>
          rw [hb2] at L2 HE
          have HE2 : Hid (sdn hi first J2 (Go.Sort.swp e R P2) = T) := by have := HE.out; rw [if_neg (by decide)] at this; exact this
          clear LES HA HE hb2
          go_wp2_with fail
          refine L2.mono ?_
          rintro e9 z9 ⟨rfl, bz9⟩
          clear L2 M1
          have A9 := HW.out.next bz9
          have SW := SWL.out z9 R P2 A9 b0 bP
          have K9 : Hid (Kp [g] w z9) := KW.out.trans (Kp.of bz9)
          clear A9 SWL bz9 HW KW
          go_wp2_with fail
          refine SW.mono ?_
          rintro e9 z8 ⟨rfl, A8, k8⟩
          clear SW M2
          have R8 : Hid (IsA z8 base g N cap (Go.Sort.swp e R P2) ∧ Kp [g] w z8) := ⟨A8, K9.out.trans k8⟩
          clear A8 k8 K9
          go_wp2_with fail
          have q1 := hJ1.out
          have q2 := hJ2.out
          exact ⟨⟨J2, _, rfl, by omega, HE2.out, R8.out⟩, by simp [intOf]; omega⟩
      | false =>
        have HE : Hid ((if aheadB e[R]! e[P1]! = false then e else sdn hi first J1 (Go.Sort.swp e R P1)) = T) := by
          show _ = T
          rw [← he, sd_one hi first r e (by have := hJ1.out; omega) (by rw [← hP1.out, ← hP2.out, hb1]; simp), hR.out, hP1.out, hJ1.out]
        rw [hb1] at L1
        have bP := b1
        clear hb1 he
        go_wp2_with fail
        refine L1.mono ?_
        rintro e9 z1 ⟨rfl, bz1⟩
        clear L1
        have HW : Hid (IsA z1 base g N cap e) := HA.out.next bz1
        have KW : Hid (Kp [g] w z1) := hK.trans (Kp.of bz1)
        clear bz1 hK
        have L2 := LES.out z1 R P1 HW.out b0 bP
        cases hb2 : aheadB e[R]! e[P1]! with
        | false =>
          rw [hb2] at L2 HE
          have HE2 : e = T := by have := HE.out; rw [if_pos rfl] at this; exact this
          subst HE2
          have FIN : Hid (∀ z, Below z1.heap.size z1 z → IsA z base g N cap e ∧ Kp [g] w z) := fun z hz => ⟨HW.out.next hz, KW.out.trans (Kp.of hz)⟩
          clear LES SWL M2 HA HW KW HE hb2
          go_wp2_with fail
          refine L2.mono ?_
          rintro e9 z9 ⟨rfl, bz9⟩
          clear L2 M1
          have F9 : Hid _ := FIN.out z9 bz9
          go_wp2_with fail
          first | go_end0 | refine bodyPost_ret (v := .tuple #[]) (by simp [results, Try.results57, go_sem]) rfl ?_
          exact ⟨rfl, F9.out⟩
        | true =>
          rw [hb2] at L2 HE
          have HE2 : Hid (sdn hi first J1 (Go.Sort.swp e R P1) = T) := by have := HE.out; rw [if_neg (by decide)] at this; exact this
          clear LES HA HE hb2
          go_wp2_with fail
          refine L2.mono ?_
          rintro e9 z9 ⟨rfl, bz9⟩
          clear L2 M1
          have A9 := HW.out.next bz9
          have SW := SWL.out z9 R P1 A9 b0 bP
          have K9 : Hid (Kp [g] w z9) := KW.out.trans (Kp.of bz9)
          clear A9 SWL bz9 HW KW
          go_wp2_with fail
          refine SW.mono ?_
          rintro e9 z8 ⟨rfl, A8, k8⟩
          clear SW M2
          have R8 : Hid (IsA z8 base g N cap (Go.Sort.swp e R P1) ∧ Kp [g] w z8) := ⟨A8, K9.out.trans k8⟩
          clear A8 k8 K9
          go_wp2_with fail
          have q1 := hJ1.out
          have q2 := hJ2.out
          exact ⟨⟨J1, _, rfl, by omega, HE2.out, R8.out⟩, by simp [intOf]; omega⟩
    · have g2' : ¬ (J2 : Int) < (hi : Int) := by omega
      have HE : Hid ((if aheadB e[R]! e[P1]! = false then e else sdn hi first J1 (Go.Sort.swp e R P1)) = T) := by
        show _ = T
        rw [← he, sd_one hi first r e (by have := hJ1.out; omega) (fun x => g2 (by rw [hJ2.out]; exact x.1)), hR.out, hP1.out, hJ1.out]
      have bP := b1
      have HW : Hid (IsA wr base g N cap e) := HA.out
      have KW : Hid (Kp [g] w wr) := hK
      clear he hK
      have L2 := LES.out wr R P1 HW.out b0 bP
      cases hb2 : aheadB e[R]! e[P1]! with
      | false =>
        rw [hb2] at L2 HE
        have HE2 : e = T := by have := HE.out; rw [if_pos rfl] at this; exact this
        subst HE2
        have FIN : Hid (∀ z, Below wr.heap.size wr z → IsA z base g N cap e ∧ Kp [g] w z) := fun z hz => ⟨HW.out.next hz, KW.out.trans (Kp.of hz)⟩
        clear LES SWL M2 HA HW KW HE hb2
        go_wp2_with fail
        refine L2.mono ?_
        rintro e9 z9 ⟨rfl, bz9⟩
        clear L2 M1
        have F9 : Hid _ := FIN.out z9 bz9
        go_wp2_with fail
        first | go_end0 | refine bodyPost_ret (v := .tuple #[]) (by simp [results, Try.results57, go_sem]) rfl ?_
        exact ⟨rfl, F9.out⟩
      | true =>
        rw [hb2] at L2 HE
        have HE2 : Hid (sdn hi first J1 (Go.Sort.swp e R P1) = T) := by have := HE.out; rw [if_neg (by decide)] at this; exact this
        clear LES HA HE hb2
        go_wp2_with fail
        refine L2.mono ?_
        rintro e9 z9 ⟨rfl, bz9⟩
        clear L2 M1
        have A9 := HW.out.next bz9
        have SW := SWL.out z9 R P1 A9 b0 bP
        have K9 : Hid (Kp [g] w z9) := KW.out.trans (Kp.of bz9)
        clear A9 SWL bz9 HW KW
        go_wp2_with fail
        refine SW.mono ?_
        rintro e9 z8 ⟨rfl, A8, k8⟩
        clear SW M2
        have R8 : Hid (IsA z8 base g N cap (Go.Sort.swp e R P1) ∧ Kp [g] w z8) := ⟨A8, K9.out.trans k8⟩
        clear A8 k8 K9
        go_wp2_with fail
        have q1 := hJ1.out
        have q2 := hJ2.out
        exact ⟨⟨J1, _, rfl, by omega, HE2.out, R8.out⟩, by simp [intOf]; omega⟩
#print axioms siftDown_any

abbrev hbd (hi first k : Nat) (d : Array Sn) : Array Sn := Go.Sort.heapBuild aheadB hi first k d
abbrev hpp (first k : Nat) (d : Array Sn) : Array Sn := Go.Sort.heapPop aheadB first k d

set_option linter.unusedSimpArgs false in
set_option maxHeartbeats 4000000 in
set_option maxRecDepth 100000 in
theorem heapSort_any {w : World} {base g N cap : Nat} {d : Array Sn} (h : IsA w base g N cap d) (a b : Nat) (hab : a ≤ b) (hb : b ≤ N) (hN : N ≤ 1000000) :
    Calls Try.prog 50 #[.iface 59 (.agg #[.slice (some ⟨g, 0, none⟩) N cap]), .int .i64 (a : Int), .int .i64 (b : Int)] w fun e w' => e = .returned (.tuple #[]) ∧ IsA w' base g N cap (Go.Sort.heapSort aheadB d a b) ∧ Kp [g] w w' := by
  obtain ⟨H, hH⟩ : ∃ H, Hid (H = b - a) := ⟨_, rfl⟩
  obtain ⟨M, hM⟩ : ∃ M, Hid (M = hbd H a ((H - 1) / 2 + 1) d) := ⟨_, rfl⟩
  obtain ⟨T, hT⟩ : ∃ T, Hid (T = hpp a H M) := ⟨_, rfl⟩
  have hTT : Hid (Go.Sort.heapSort aheadB d a b = T) := by show _ = T; rw [hT.out, hM.out, hH.out]; rfl
  rw [hTT.out]
  have wH : IntKind.i64.wrap ((b : Int) - (a : Int)) = (H : Int) := by rw [hH.out, IntKind.wrap_i64]; omega
  have wK : IntKind.i64.wrap ((H : Int) - 1) = (H : Int) - 1 := by have := hH.out; rw [IntKind.wrap_i64]; omega
  have wQ := par_int H
  obtain ⟨Q, hQ⟩ : ∃ Q, Hid (Q = (H - 1) / 2) := ⟨_, rfl⟩
  rw [← hQ.out] at wQ
  have wQ2 : IntKind.i64.wrap (Q : Int) = (Q : Int) := by have := hQ.out; have := hH.out; rw [IntKind.wrap_i64]; omega
  have SD : Hid (∀ (z : World) (e : Array Sn) (lo hi : Nat), IsA z base g N cap e → hi ≤ H → lo ≤ 1000000 → Calls Try.prog 57 #[.iface 59 (.agg #[.slice (some ⟨g, 0, none⟩) N cap]), .int .i64 (lo : Int), .int .i64 (hi : Int), .int .i64 (a : Int)] z fun e' w' => e' = .returned (.tuple #[]) ∧ IsA w' base g N cap (sdn hi a lo e) ∧ Kp [g] z w') := fun z e lo hi hz hhi hlo => siftDown_any hz lo hi a (by have := hH.out; omega) hlo hN
  have HB : H ≤ 1000000 := by have := hH.out; omega
  have HAB : Hid (a + H ≤ N) := by show a + H ≤ N; have := hH.out; omega
  have INI : Hid (∃ (k : Nat) (e : Array Sn), Value.int .i64 (Q : Int) = .int .i64 ((k : Int) - 1) ∧ k ≤ Q + 1 ∧ hbd H a k e = M ∧ IsA w base g N cap e ∧ Kp [g] w w) := ⟨Q + 1, d, by rw [show ((Q + 1 : Nat) : Int) - 1 = (Q : Int) from by omega], Nat.le_refl _, by rw [hM.out, hQ.out], h, Kp.refl _ _⟩
  clear h hM hTT
  go_enter Try.func50, Try.ntmps50
  go_wp2_with fail
  go_loopw [9] (fun u wr => ∃ (k : Nat) (e : Array Sn), u = .int .i64 ((k : Int) - 1) ∧ k ≤ Q + 1 ∧ hbd H a k e = M ∧ IsA wr base g N cap e ∧ Kp [g] w wr) (fun u _ => (intOf u + 1).toNat)
  case atStart => exact INI.out
  case round =>
    clear INI
    obtain ⟨k, e, rfl, hk, he, hA, hK⟩ := hrel
    have qB : Q ≤ 1000000 := by have := hQ.out; omega
    rcases Nat.eq_zero_or_pos k with h0 | h0
    · subst h0
      have hM2 : e = M := he
      subst hM2
      have INI2 : Hid (∃ (k : Nat) (e' : Array Sn), Value.int .i64 ((H : Int) - 1) = .int .i64 ((k : Int) - 1) ∧ k ≤ H ∧ hpp a k e' = T ∧ IsA wr base g N cap e' ∧ Kp [g] w wr) := ⟨H, e, rfl, Nat.le_refl _, hT.out.symm, hA, hK⟩
      clear hA hK he hT
      go_wp2_with fail
      go_loopw [10] (fun u vr => ∃ (k : Nat) (e' : Array Sn), u = .int .i64 ((k : Int) - 1) ∧ k ≤ H ∧ hpp a k e' = T ∧ IsA vr base g N cap e' ∧ Kp [g] w vr) (fun u _ => (intOf u + 1).toNat)
      case atStart => exact INI2.out
      case round =>
        clear INI2
        obtain ⟨k, e', rfl, hk, he, hA, hK⟩ := hrel
        rcases Nat.eq_zero_or_pos k with h0 | h0
        · subst h0
          have hM2 : e' = T := he
          subst hM2
          have RES : Hid _ := hA
          clear hA
          go_wp2_with fail
          go_end0
          exact ⟨rfl, RES.out, hK⟩
        · obtain ⟨j, rfl⟩ : ∃ j, k = j + 1 := ⟨k - 1, by omega⟩
          have ej : (((j + 1 : Nat) : Int) - 1) = (j : Int) := by omega
          rw [ej]
          have HE : Hid (hpp a j (sdn j a 0 (Go.Sort.swp e' a (a + j))) = T) := he
          obtain ⟨AJ, hAJ⟩ : ∃ AJ, Hid (AJ = a + j) := ⟨_, rfl⟩
          have wj : IntKind.i64.wrap ((a : Int) + (j : Int)) = (AJ : Int) := by rw [hAJ.out, IntKind.wrap_i64]; omega
          have wj2 : IntKind.i64.wrap ((j : Int) - 1) = (j : Int) - 1 := by rw [IntKind.wrap_i64]; omega
          have gj : (0 : Int) ≤ (j : Int) := by omega
          have SW := swapA hA a AJ (by have := HAB.out; omega) (by have := HAB.out; have := hAJ.out; omega)
          have M2 := meth_swapV 234 (by decide) (some ⟨g, 0, none⟩) N cap
          clear hA he
          go_wp2_with fail
          refine SW.mono ?_
          rintro e9 z ⟨rfl, A2, k2⟩
          clear SW M2
          have SD2 : Calls Try.prog 57 #[.iface 59 (.agg #[.slice (some ⟨g, 0, none⟩) N cap]), .int .i64 0, .int .i64 (j : Int), .int .i64 (a : Int)] z fun e' w' => e' = .returned (.tuple #[]) ∧ IsA w' base g N cap (sdn j a 0 _) ∧ Kp [g] z w' := SD.out z _ 0 j A2 (by omega) (by omega)
          have K2 : Hid (Kp [g] w z) := hK.trans k2
          clear A2 k2 hK
          go_wp2_with fail
          refine SD2.mono ?_
          rintro e9 z2 ⟨rfl, A3, k3⟩
          clear SD2
          rw [hAJ.out] at A3
          have R3 : Hid (IsA z2 base g N cap (sdn j a 0 (Go.Sort.swp e' a (a + j))) ∧ Kp [g] w z2) := ⟨A3, K2.out.trans k3⟩
          clear A3 k3 K2
          go_wp2_with fail
          refine ⟨?_, by simp [intOf] <;> omega⟩
          exact ⟨_, _, _, _, _, _, _, _, _, _, _, _, _, _, _, _, ⟨j, _, rfl, by omega, HE.out, R3.out⟩, rfl⟩
    · obtain ⟨j, rfl⟩ : ∃ j, k = j + 1 := ⟨k - 1, by omega⟩
      have ej : (((j + 1 : Nat) : Int) - 1) = (j : Int) := by omega
      rw [ej]
      have HE : Hid (hbd H a j (sdn H a j e) = M) := he
      have wj2 : IntKind.i64.wrap ((j : Int) - 1) = (j : Int) - 1 := by rw [IntKind.wrap_i64]; omega
      have gj : (0 : Int) ≤ (j : Int) := by omega
      have SD2 := SD.out wr e j H hA (Nat.le_refl _) (by omega)
      clear hA he
      go_wp2_with fail
      refine SD2.mono ?_
      rintro e9 z2 ⟨rfl, A3, k3⟩
      clear SD2
      have R3 : Hid (IsA z2 base g N cap (sdn H a j e) ∧ Kp [g] w z2) := ⟨A3, hK.trans k3⟩
      clear A3 k3 hK
      go_wp2_with fail
      exact ⟨⟨j, _, rfl, by omega, HE.out, R3.out⟩, by simp [intOf] <;> omega⟩
#print axioms heapSort_any
end Go.Proofs.Ytndlpjfofjikeaa
