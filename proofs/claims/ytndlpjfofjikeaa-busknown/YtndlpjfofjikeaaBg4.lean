/-
  The walk of the sort's partialInsertionSort.
-/
import Derived.Test.YtndlpjfofjikeaaBe4
namespace Go.Proofs.Ytndlpjfofjikeaa
open Go.RowKit

abbrev scS (d : Array Sn) (b i : Nat) : Nat := Go.Sort.scanSorted aheadB d b i
theorem ss_go (d : Array Sn) (b i : Nat) (h : i < b) (hl : aheadB d[i]! d[i - 1]! = false) : scS d b i = scS d b (i + 1) := by
  conv => lhs; unfold scS Go.Sort.scanSorted
  rw [if_pos (by simp [h, hl])]
theorem ss_end (d : Array Sn) (b i : Nat) (h : ¬ i < b) : scS d b i = i := by
  unfold scS Go.Sort.scanSorted
  rw [if_neg (by simp; omega)]
theorem ss_not (d : Array Sn) (b i : Nat) (hl : aheadB d[i]! d[i - 1]! = true) : scS d b i = i := by
  unfold scS Go.Sort.scanSorted
  rw [if_neg (by simp [hl])]
abbrev shD (j : Nat) (d : Array Sn) : Array Sn := Go.Sort.shiftDown aheadB j d
theorem sh_0 (d : Array Sn) : shD 0 d = d := rfl
theorem sh_not (j : Nat) (d : Array Sn) (hl : aheadB d[j + 1]! d[j]! = false) : shD (j + 1) d = d := by
  unfold shD Go.Sort.shiftDown; rw [if_pos (by simp [hl])]
theorem sh_go (j : Nat) (d : Array Sn) (hl : aheadB d[j + 1]! d[j]! = true) : shD (j + 1) d = shD j (Go.Sort.swp d (j + 1) j) := by
  conv => lhs; unfold shD Go.Sort.shiftDown
  rw [if_neg (by simp [hl])]
abbrev shU (b j : Nat) (d : Array Sn) : Array Sn := Go.Sort.shiftUp aheadB b j d
theorem su_end (b j : Nat) (d : Array Sn) (h : ¬ j < b) : shU b j d = d := by
  unfold shU Go.Sort.shiftUp; rw [if_neg h]
theorem su_not (b j : Nat) (d : Array Sn) (h : j < b) (hl : aheadB d[j]! d[j - 1]! = false) : shU b j d = d := by
  unfold shU Go.Sort.shiftUp; rw [if_pos h, if_pos (by simp [hl])]
theorem su_go (b j : Nat) (d : Array Sn) (h : j < b) (hl : aheadB d[j]! d[j - 1]! = true) : shU b j d = shU b (j + 1) (Go.Sort.swp d j (j - 1)) := by
  conv => lhs; unfold shU Go.Sort.shiftUp
  rw [if_pos h, if_neg (by simp [hl])]
abbrev pIn (a b s i : Nat) (d : Array Sn) : Array Sn × Bool := Go.Sort.partialIns aheadB a b s i d
theorem pIn_0 (a b i : Nat) (d : Array Sn) : pIn a b 0 i d = (d, false) := rfl
theorem pIn_s (a b s i I : Nat) (d D1 D2 D3 : Array Sn) (hI : I = scS d b i) (h1 : D1 = Go.Sort.swp d I (I - 1)) (h2 : D2 = if 2 ≤ I - a then shD (I - 1) D1 else D1) (h3 : D3 = if 2 ≤ b - I then shU b (I + 1) D2 else D2) :
    pIn a b (s + 1) i d = if I = b then (d, true) else if b - a < 50 then (d, false) else pIn a b s I D3 := by
  subst h3 h2 h1 hI
  rfl

set_option linter.unusedSimpArgs false in
set_option maxHeartbeats 4000000 in
set_option maxRecDepth 100000 in
theorem partialInsertionSort_any {w : World} {base g N cap : Nat} {d : Array Sn} (h : IsA w base g N cap d) (a b : Nat) (hab : a < b) (hb : b ≤ N) (hN : N ≤ 1000000) :
    Calls Try.prog 54 #[.iface 59 (.agg #[.slice (some ⟨g, 0, none⟩) N cap]), .int .i64 (a : Int), .int .i64 (b : Int)] w fun e w' => e = .returned (.bool (Go.Sort.partialInsertionSort aheadB d a b).2) ∧ IsA w' base g N cap (Go.Sort.partialInsertionSort aheadB d a b).1 ∧ Kp [g] w w' := by
  obtain ⟨T, hT⟩ : ∃ T, Hid (T = Go.Sort.partialInsertionSort aheadB d a b) := ⟨_, rfl⟩
  rw [← hT.out]
  obtain ⟨A1, hA1⟩ : ∃ A1, Hid (A1 = a + 1) := ⟨_, rfl⟩
  have wa : IntKind.i64.wrap ((a : Int) + 1) = (A1 : Int) := by rw [hA1.out, IntKind.wrap_i64]; omega
  obtain ⟨L, hL⟩ : ∃ L, Hid (L = b - a) := ⟨_, rfl⟩
  have wL : IntKind.i64.wrap ((b : Int) - (a : Int)) = (L : Int) := by have := hL.out; rw [IntKind.wrap_i64]; omega
  have INI : Hid (∃ (c i : Nat) (e : Array Sn), Value.int .i64 (A1 : Int) = .int .i64 (i : Int) ∧ Value.int .i64 0 = .int .i64 (c : Int) ∧ c ≤ 5 ∧ a + 1 ≤ i ∧ i ≤ b ∧ pIn a b (5 - c) i e = T ∧ IsA w base g N cap e ∧ Kp [g] w w) := ⟨0, A1, d, rfl, rfl, by omega, by have := hA1.out; omega, by have := hA1.out; omega, by rw [hT.out, hA1.out]; rfl, h, Kp.refl _ _⟩
  have M1 := meth_lessV 234 (by decide) (some ⟨g, 0, none⟩) N cap
  have M2 := meth_swapV 234 (by decide) (some ⟨g, 0, none⟩) N cap
  clear h hT
  go_enter Try.func54, Try.ntmps54
  go_wp2_with fail
  go_loopw [7, 8] (fun u v wr => ∃ (c i : Nat) (e : Array Sn), u = .int .i64 (i : Int) ∧ v = .int .i64 (c : Int) ∧ c ≤ 5 ∧ a + 1 ≤ i ∧ i ≤ b ∧ pIn a b (5 - c) i e = T ∧ IsA wr base g N cap e ∧ Kp [g] w wr) (fun _ v _ => 5 - (intOf v).toNat)
  case atStart => exact INI.out
  case round =>
    clear INI
    obtain ⟨c, i, e, rfl, rfl, hc5, hi, hib, he, hA, hK⟩ := hrel
    by_cases hc : c < 5
    rotate_left
    · have gc : ¬ (c : Int) < 5 := by omega
      rw [show 5 - c = 0 from by omega, pIn_0] at he
      subst he
      have RES : Hid (IsA wr base g N cap e ∧ Kp [g] w wr) := ⟨hA, hK⟩
      clear hA hK
      go_wp2_with fail
      go_ret
      exact ⟨rfl, RES.out⟩
    have gc : (c : Int) < 5 := by omega
    have wc : IntKind.i64.wrap ((c : Int) + 1) = ((c + 1 : Nat) : Int) := by rw [IntKind.wrap_i64]; omega
    obtain ⟨I2, hI2⟩ : ∃ I2, Hid (I2 = scS e b i) := ⟨_, rfl⟩
    obtain ⟨D1, hD1⟩ : ∃ D1, Hid (D1 = Go.Sort.swp e I2 (I2 - 1)) := ⟨_, rfl⟩
    obtain ⟨D2, hD2⟩ : ∃ D2, Hid (D2 = if 2 ≤ I2 - a then shD (I2 - 1) D1 else D1) := ⟨_, rfl⟩
    obtain ⟨D3, hD3⟩ : ∃ D3, Hid (D3 = if 2 ≤ b - I2 then shU b (I2 + 1) D2 else D2) := ⟨_, rfl⟩
    have HE : Hid ((if I2 = b then (e, true) else if b - a < 50 then (e, false) else pIn a b (5 - (c + 1)) I2 D3) = T) := by
      show _ = T
      rw [← he, show 5 - c = (5 - (c + 1)) + 1 from by omega]
      exact (pIn_s a b (5 - (c + 1)) i I2 e D1 D2 D3 hI2.out hD1.out hD2.out hD3.out).symm
    have INI : Hid (∃ i' : Nat, Value.int .i64 (i : Int) = .int .i64 (i' : Int) ∧ i ≤ i' ∧ i' ≤ b ∧ scS e b i' = I2 ∧ IsA wr base g N cap e ∧ Kp [g] w wr) := ⟨i, rfl, Nat.le_refl _, hib, hI2.out.symm, hA, hK⟩
    clear hA hK hI2 he
    go_wp2_with fail
    go_loopw [7] (fun u vr => ∃ i' : Nat, u = .int .i64 (i' : Int) ∧ i ≤ i' ∧ i' ≤ b ∧ scS e b i' = I2 ∧ IsA vr base g N cap e ∧ Kp [g] w vr) (fun u _ => b - (intOf u).toNat)
    case atStart => exact INI.out
    case round =>
      clear INI
      obtain ⟨i', rfl, hi1, hi2, hs, hA, hK⟩ := hrel
      by_cases hlt : i' < b
      rotate_left
      · have gi : ¬ (i' : Int) < (b : Int) := by omega
        rw [ss_end e b i' hlt] at hs
        subst hs
        obtain rfl : i' = b := by omega
        have ET : Hid ((e, true) = T) := by show _ = T; rw [← HE.out, if_pos rfl]
        have RES : Hid (IsA wr base g N cap e ∧ Kp [g] w wr) := ⟨hA, hK⟩
        clear hA hK HE hD1 hD2 hD3
        go_wp2_with fail
        go_ret
        rw [← ET.out]
        exact ⟨rfl, RES.out⟩
      have gi : (i' : Int) < (b : Int) := by omega
      obtain ⟨q, hq⟩ : ∃ q, Hid (q = i' - 1) := ⟨_, rfl⟩
      have wq : IntKind.i64.wrap ((i' : Int) - 1) = (q : Int) := by have := hq.out; rw [IntKind.wrap_i64]; omega
      have L1 := lessA hA i' q (by omega) (by have := hq.out; omega)
      have HAB : Hid (∀ z, Below wr.heap.size wr z → IsA z base g N cap e ∧ Kp [g] w z) := fun z hz => ⟨hA.next hz, hK.trans (Kp.of hz)⟩
      clear hA hK
      cases hl : aheadB e[i']! e[q]! with
      | false =>
        rw [hl] at L1
        rw [ss_go e b i' hlt (by rw [← hq.out]; exact hl)] at hs
        have HS : Hid _ := hs
        have wi : IntKind.i64.wrap ((i' : Int) + 1) = ((i' + 1 : Nat) : Int) := by rw [IntKind.wrap_i64]; omega
        clear hl hs
        go_wp2_with fail
        refine L1.mono ?_
        rintro e9 z ⟨rfl, bz⟩
        have R2 : Hid _ := HAB.out z bz
        clear L1 bz HAB
        go_wp2_with fail
        exact ⟨⟨i' + 1, rfl, by omega, by omega, HS.out, R2.out⟩, by simp [intOf]; omega⟩
      | true =>
        rw [hl] at L1
        rw [ss_not e b i' (by rw [← hq.out]; exact hl)] at hs
        subst hs
        rw [← hq.out] at hD1 hD2
        have hD1' := hD1.out
        subst hD1'
        clear hl hD1
        have ne1 : ¬ (i' : Int) = (b : Int) := by omega
        have ne2 : ((i' : Int) == (b : Int)) = false := by simp; omega
        have nb : i' ≠ b := by omega
        by_cases h50 : b - a < 50
        · have g50 : (L : Int) < 50 := by have := hL.out; omega
          have ET : Hid ((e, false) = T) := by show _ = T; rw [← HE.out, if_neg nb, if_pos h50]
          clear HE
          go_wp2_with fail
          refine L1.mono ?_
          rintro e9 z ⟨rfl, bz⟩
          have R2 : Hid _ := HAB.out z bz
          clear L1 bz HAB
          go_wp2_with fail
          go_ret
          rw [← ET.out]
          exact ⟨rfl, R2.out⟩
        have g50 : ¬ (L : Int) < 50 := by have := hL.out; omega
        have HE3 : Hid (pIn a b (5 - (c + 1)) i' D3 = T) := by show _ = T; rw [← HE.out, if_neg nb, if_neg h50]
        obtain ⟨M, hMM⟩ : ∃ M, Hid (M = i' - a) := ⟨_, rfl⟩
        have wM : IntKind.i64.wrap ((i' : Int) - (a : Int)) = (M : Int) := by have := hMM.out; rw [IntKind.wrap_i64]; omega
        obtain ⟨P, hPP⟩ : ∃ P, Hid (P = b - i') := ⟨_, rfl⟩
        have wP : IntKind.i64.wrap ((b : Int) - (i' : Int)) = (P : Int) := by have := hPP.out; rw [IntKind.wrap_i64]; omega
        have wi : IntKind.i64.wrap ((i' : Int) + 1) = ((i' + 1 : Nat) : Int) := by rw [IntKind.wrap_i64]; omega
        clear HE
        go_wp2_with fail
        refine L1.mono ?_
        rintro e9 z ⟨rfl, bz⟩
        obtain ⟨hA, hK⟩ := HAB.out z bz
        have SW := swapA hA i' q (by omega) (by have := hq.out; omega)
        have HK : Hid (Kp [g] w z) := hK
        clear L1 bz HAB hA hK
        go_wp2_with fail
        refine SW.mono ?_
        rintro e9 z2 ⟨rfl, hA, k2⟩
        clear SW
        have hK : Kp [g] w z2 := HK.out.trans k2
        clear k2 HK
        by_cases hM : 2 ≤ i' - a
        rotate_left
        · have eD : D2 = Go.Sort.swp e i' q := by rw [hD2.out, if_neg hM]
          rw [eD] at hD3
          have gM : ¬ (2 : Int) ≤ ((M : Nat) : Int) := by have := hMM.out; omega
          have gM2 : (M : Int) < 2 := by omega
          clear hD2
          by_cases hP : 2 ≤ b - i'
          rotate_left
          · exact absurd h50 (by omega)
          have gP : (2 : Int) ≤ ((P : Nat) : Int) := by have := hPP.out; omega
          have gP2 : ¬ (P : Int) < 2 := by omega
          have INI : Hid (∃ (j : Nat) (e2 : Array Sn), Value.int .i64 ((i' + 1 : Nat) : Int) = .int .i64 (j : Int) ∧ i' + 1 ≤ j ∧ j ≤ b ∧ shU b j e2 = D3 ∧ IsA z2 base g N cap e2 ∧ Kp [g] w z2) := ⟨i' + 1, (Go.Sort.swp e i' q), rfl, Nat.le_refl _, by omega, by rw [hD3.out, if_pos hP], hA, hK⟩
          clear hA hK hD3
          go_wp2_with fail
          go_loopw [10] (fun u vr => ∃ (j : Nat) (e2 : Array Sn), u = .int .i64 (j : Int) ∧ i' + 1 ≤ j ∧ j ≤ b ∧ shU b j e2 = D3 ∧ IsA vr base g N cap e2 ∧ Kp [g] w vr) (fun u _ => b - (intOf u).toNat)
          case atStart => exact INI.out
          case round =>
            clear INI
            obtain ⟨j, e2, rfl, hj1, hj2, hs, hA, hK⟩ := hrel
            by_cases hjb : j < b
            rotate_left
            · have gj : ¬ (j : Int) < (b : Int) := by omega
              rw [su_end b j e2 hjb] at hs
              subst hs
              have R2 : Hid (IsA wr base g N cap e2 ∧ Kp [g] w wr) := ⟨hA, hK⟩
              clear hA hK
              go_wp2_with fail
              exact ⟨⟨c + 1, i', _, rfl, rfl, by omega, by omega, by omega, HE3.out, R2.out⟩, by simp [intOf]; omega⟩
            have gj : (j : Int) < (b : Int) := by omega
            obtain ⟨m, hm⟩ : ∃ m, Hid (m = j - 1) := ⟨_, rfl⟩
            have wm : IntKind.i64.wrap ((j : Int) - 1) = (m : Int) := by have := hm.out; rw [IntKind.wrap_i64]; omega
            have L1 := lessA hA j m (by omega) (by have := hm.out; omega)
            have HAB : Hid (∀ z, Below wr.heap.size wr z → IsA z base g N cap e2 ∧ Kp [g] w z) := fun z hz => ⟨hA.next hz, hK.trans (Kp.of hz)⟩
            clear hA hK
            cases hl : aheadB e2[j]! e2[m]! with
            | false =>
              rw [hl] at L1
              rw [su_not b j e2 hjb (by rw [← hm.out]; exact hl)] at hs
              subst hs
              clear hl
              go_wp2_with fail
              refine L1.mono ?_
              rintro e9 z ⟨rfl, bz⟩
              have R2 : Hid _ := HAB.out z bz
              clear L1 bz HAB
              go_wp2_with fail
              exact ⟨⟨c + 1, i', _, rfl, rfl, by omega, by omega, by omega, HE3.out, R2.out⟩, by simp [intOf]; omega⟩
            | true =>
              rw [hl] at L1
              rw [su_go b j e2 hjb (by rw [← hm.out]; exact hl), ← hm.out] at hs
              have HS : Hid (shU b (j + 1) (Go.Sort.swp e2 j m) = D3) := hs
              have wj : IntKind.i64.wrap ((j : Int) + 1) = ((j + 1 : Nat) : Int) := by rw [IntKind.wrap_i64]; omega
              clear hl hs
              go_wp2_with fail
              refine L1.mono ?_
              rintro e9 z ⟨rfl, bz⟩
              obtain ⟨hA, hK⟩ := HAB.out z bz
              have SW := swapA hA j m (by omega) (by have := hm.out; omega)
              have HK : Hid (Kp [g] w z) := hK
              clear L1 bz HAB hA hK
              go_wp2_with fail
              refine SW.mono ?_
              rintro e9 z2 ⟨rfl, A2, k2⟩
              clear SW
              have R2 : Hid (IsA z2 base g N cap (Go.Sort.swp e2 j m) ∧ Kp [g] w z2) := ⟨A2, HK.out.trans k2⟩
              clear A2 k2 HK
              go_wp2_with fail
              exact ⟨⟨j + 1, _, rfl, by omega, by omega, HS.out, R2.out⟩, by simp [intOf]; omega⟩
        have gM : (2 : Int) ≤ ((M : Nat) : Int) := by have := hMM.out; omega
        have gM2 : ¬ (M : Int) < 2 := by omega
        have INI : Hid (∃ (j : Nat) (e1 : Array Sn), Value.int .i64 (q : Int) = .int .i64 (j : Int) ∧ j ≤ q ∧ shD j e1 = D2 ∧ IsA z2 base g N cap e1 ∧ Kp [g] w z2) := ⟨q, Go.Sort.swp e i' q, rfl, Nat.le_refl _, by rw [hD2.out, if_pos hM], hA, hK⟩
        clear hA hK hD2
        go_wp2_with fail
        go_loopw [9] (fun u vr => ∃ (j : Nat) (e1 : Array Sn), u = .int .i64 (j : Int) ∧ j ≤ q ∧ shD j e1 = D2 ∧ IsA vr base g N cap e1 ∧ Kp [g] w vr) (fun u _ => (intOf u).toNat)
        case atStart => exact INI.out
        case round =>
          clear INI
          obtain ⟨j, e1, rfl, hj1, hs, hA, hK⟩ := hrel
          by_cases hj0 : 1 ≤ j
          rotate_left
          · have gj : ¬ (1 : Int) ≤ (j : Int) := by omega
            have gj2 : (j : Int) < 1 := by omega
            obtain rfl : j = 0 := by omega
            rw [sh_0] at hs
            subst hs
            by_cases hP : 2 ≤ b - i'
            rotate_left
            · have eD : D3 = e1 := by rw [hD3.out, if_neg hP]
              rw [eD] at HE3
              have gP : ¬ (2 : Int) ≤ ((P : Nat) : Int) := by have := hPP.out; omega
              have gP2 : (P : Int) < 2 := by omega
              have R2 : Hid (IsA wr base g N cap e1 ∧ Kp [g] w wr) := ⟨hA, hK⟩
              clear hA hK
              go_wp2_with fail
              exact ⟨⟨c + 1, i', _, rfl, rfl, by omega, by omega, by omega, HE3.out, R2.out⟩, by simp [intOf]; omega⟩
            have gP : (2 : Int) ≤ ((P : Nat) : Int) := by have := hPP.out; omega
            have gP2 : ¬ (P : Int) < 2 := by omega
            have INI : Hid (∃ (j : Nat) (e2 : Array Sn), Value.int .i64 ((i' + 1 : Nat) : Int) = .int .i64 (j : Int) ∧ i' + 1 ≤ j ∧ j ≤ b ∧ shU b j e2 = D3 ∧ IsA wr base g N cap e2 ∧ Kp [g] w wr) := ⟨i' + 1, e1, rfl, Nat.le_refl _, by omega, by rw [hD3.out, if_pos hP], hA, hK⟩
            clear hA hK hD3
            go_wp2_with fail
            go_loopw [10] (fun u vr => ∃ (j : Nat) (e2 : Array Sn), u = .int .i64 (j : Int) ∧ i' + 1 ≤ j ∧ j ≤ b ∧ shU b j e2 = D3 ∧ IsA vr base g N cap e2 ∧ Kp [g] w vr) (fun u _ => b - (intOf u).toNat)
            case atStart => exact INI.out
            case round =>
              clear INI
              obtain ⟨j, e2, rfl, hj1, hj2, hs, hA, hK⟩ := hrel
              by_cases hjb : j < b
              rotate_left
              · have gj : ¬ (j : Int) < (b : Int) := by omega
                rw [su_end b j e2 hjb] at hs
                subst hs
                have R2 : Hid (IsA wr base g N cap e2 ∧ Kp [g] w wr) := ⟨hA, hK⟩
                clear hA hK
                go_wp2_with fail
                exact ⟨⟨c + 1, i', _, rfl, rfl, by omega, by omega, by omega, HE3.out, R2.out⟩, by simp [intOf]; omega⟩
              have gj : (j : Int) < (b : Int) := by omega
              obtain ⟨m, hm⟩ : ∃ m, Hid (m = j - 1) := ⟨_, rfl⟩
              have wm : IntKind.i64.wrap ((j : Int) - 1) = (m : Int) := by have := hm.out; rw [IntKind.wrap_i64]; omega
              have L1 := lessA hA j m (by omega) (by have := hm.out; omega)
              have HAB : Hid (∀ z, Below wr.heap.size wr z → IsA z base g N cap e2 ∧ Kp [g] w z) := fun z hz => ⟨hA.next hz, hK.trans (Kp.of hz)⟩
              clear hA hK
              cases hl : aheadB e2[j]! e2[m]! with
              | false =>
                rw [hl] at L1
                rw [su_not b j e2 hjb (by rw [← hm.out]; exact hl)] at hs
                subst hs
                clear hl
                go_wp2_with fail
                refine L1.mono ?_
                rintro e9 z ⟨rfl, bz⟩
                have R2 : Hid _ := HAB.out z bz
                clear L1 bz HAB
                go_wp2_with fail
                exact ⟨⟨c + 1, i', _, rfl, rfl, by omega, by omega, by omega, HE3.out, R2.out⟩, by simp [intOf]; omega⟩
              | true =>
                rw [hl] at L1
                rw [su_go b j e2 hjb (by rw [← hm.out]; exact hl), ← hm.out] at hs
                have HS : Hid (shU b (j + 1) (Go.Sort.swp e2 j m) = D3) := hs
                have wj : IntKind.i64.wrap ((j : Int) + 1) = ((j + 1 : Nat) : Int) := by rw [IntKind.wrap_i64]; omega
                clear hl hs
                go_wp2_with fail
                refine L1.mono ?_
                rintro e9 z ⟨rfl, bz⟩
                obtain ⟨hA, hK⟩ := HAB.out z bz
                have SW := swapA hA j m (by omega) (by have := hm.out; omega)
                have HK : Hid (Kp [g] w z) := hK
                clear L1 bz HAB hA hK
                go_wp2_with fail
                refine SW.mono ?_
                rintro e9 z2 ⟨rfl, A2, k2⟩
                clear SW
                have R2 : Hid (IsA z2 base g N cap (Go.Sort.swp e2 j m) ∧ Kp [g] w z2) := ⟨A2, HK.out.trans k2⟩
                clear A2 k2 HK
                go_wp2_with fail
                exact ⟨⟨j + 1, _, rfl, by omega, by omega, HS.out, R2.out⟩, by simp [intOf]; omega⟩
          have gj : (1 : Int) ≤ (j : Int) := by omega
          have gj2 : ¬ (j : Int) < 1 := by omega
          obtain ⟨m, hm⟩ : ∃ m, Hid (j = m + 1) := ⟨j - 1, by show j = _; omega⟩
          have wm : IntKind.i64.wrap ((j : Int) - 1) = (m : Int) := by have := hq.out; have := hm.out; rw [IntKind.wrap_i64]; omega
          have L1 := lessA hA j m (by have := hq.out; omega) (by have := hq.out; have := hm.out; omega)
          have HAB : Hid (∀ z, Below wr.heap.size wr z → IsA z base g N cap e1 ∧ Kp [g] w z) := fun z hz => ⟨hA.next hz, hK.trans (Kp.of hz)⟩
          clear hA hK
          cases hl : aheadB e1[j]! e1[m]! with
          | false =>
            rw [hl] at L1
            have eD : e1 = D2 := by rw [← hs, hm.out, sh_not m e1 (by rw [← hm.out]; exact hl)]
            subst eD
            clear hl hs
            go_wp2_with fail
            refine L1.mono ?_
            rintro e9 z ⟨rfl, bz⟩
            obtain ⟨hA, hK⟩ := HAB.out z bz
            clear L1 bz HAB
            by_cases hP : 2 ≤ b - i'
            rotate_left
            · have eD : D3 = e1 := by rw [hD3.out, if_neg hP]
              rw [eD] at HE3
              have gP : ¬ (2 : Int) ≤ ((P : Nat) : Int) := by have := hPP.out; omega
              have gP2 : (P : Int) < 2 := by omega
              have R2 : Hid (IsA z base g N cap e1 ∧ Kp [g] w z) := ⟨hA, hK⟩
              clear hA hK
              go_wp2_with fail
              exact ⟨⟨c + 1, i', _, rfl, rfl, by omega, by omega, by omega, HE3.out, R2.out⟩, by simp [intOf]; omega⟩
            have gP : (2 : Int) ≤ ((P : Nat) : Int) := by have := hPP.out; omega
            have gP2 : ¬ (P : Int) < 2 := by omega
            have INI : Hid (∃ (j : Nat) (e2 : Array Sn), Value.int .i64 ((i' + 1 : Nat) : Int) = .int .i64 (j : Int) ∧ i' + 1 ≤ j ∧ j ≤ b ∧ shU b j e2 = D3 ∧ IsA z base g N cap e2 ∧ Kp [g] w z) := ⟨i' + 1, e1, rfl, Nat.le_refl _, by omega, by rw [hD3.out, if_pos hP], hA, hK⟩
            clear hA hK hD3
            go_wp2_with fail
            go_loopw [10] (fun u vr => ∃ (j : Nat) (e2 : Array Sn), u = .int .i64 (j : Int) ∧ i' + 1 ≤ j ∧ j ≤ b ∧ shU b j e2 = D3 ∧ IsA vr base g N cap e2 ∧ Kp [g] w vr) (fun u _ => b - (intOf u).toNat)
            case atStart => exact INI.out
            case round =>
              clear INI
              obtain ⟨j, e2, rfl, hj1, hj2, hs, hA, hK⟩ := hrel
              by_cases hjb : j < b
              rotate_left
              · have gj : ¬ (j : Int) < (b : Int) := by omega
                rw [su_end b j e2 hjb] at hs
                subst hs
                have R2 : Hid (IsA wr base g N cap e2 ∧ Kp [g] w wr) := ⟨hA, hK⟩
                clear hA hK
                go_wp2_with fail
                exact ⟨⟨c + 1, i', _, rfl, rfl, by omega, by omega, by omega, HE3.out, R2.out⟩, by simp [intOf]; omega⟩
              have gj : (j : Int) < (b : Int) := by omega
              obtain ⟨m, hm⟩ : ∃ m, Hid (m = j - 1) := ⟨_, rfl⟩
              have wm : IntKind.i64.wrap ((j : Int) - 1) = (m : Int) := by have := hm.out; rw [IntKind.wrap_i64]; omega
              have L1 := lessA hA j m (by omega) (by have := hm.out; omega)
              have HAB : Hid (∀ z, Below wr.heap.size wr z → IsA z base g N cap e2 ∧ Kp [g] w z) := fun z hz => ⟨hA.next hz, hK.trans (Kp.of hz)⟩
              clear hA hK
              cases hl : aheadB e2[j]! e2[m]! with
              | false =>
                rw [hl] at L1
                rw [su_not b j e2 hjb (by rw [← hm.out]; exact hl)] at hs
                subst hs
                clear hl
                go_wp2_with fail
                refine L1.mono ?_
                rintro e9 z ⟨rfl, bz⟩
                have R2 : Hid _ := HAB.out z bz
                clear L1 bz HAB
                go_wp2_with fail
                exact ⟨⟨c + 1, i', _, rfl, rfl, by omega, by omega, by omega, HE3.out, R2.out⟩, by simp [intOf]; omega⟩
              | true =>
                rw [hl] at L1
                rw [su_go b j e2 hjb (by rw [← hm.out]; exact hl), ← hm.out] at hs
                have HS : Hid (shU b (j + 1) (Go.Sort.swp e2 j m) = D3) := hs
                have wj : IntKind.i64.wrap ((j : Int) + 1) = ((j + 1 : Nat) : Int) := by rw [IntKind.wrap_i64]; omega
                clear hl hs
                go_wp2_with fail
                refine L1.mono ?_
                rintro e9 z ⟨rfl, bz⟩
                obtain ⟨hA, hK⟩ := HAB.out z bz
                have SW := swapA hA j m (by omega) (by have := hm.out; omega)
                have HK : Hid (Kp [g] w z) := hK
                clear L1 bz HAB hA hK
                go_wp2_with fail
                refine SW.mono ?_
                rintro e9 z2 ⟨rfl, A2, k2⟩
                clear SW
                have R2 : Hid (IsA z2 base g N cap (Go.Sort.swp e2 j m) ∧ Kp [g] w z2) := ⟨A2, HK.out.trans k2⟩
                clear A2 k2 HK
                go_wp2_with fail
                exact ⟨⟨j + 1, _, rfl, by omega, by omega, HS.out, R2.out⟩, by simp [intOf]; omega⟩
          | true =>
            rw [hl] at L1
            have HS : Hid (shD m (Go.Sort.swp e1 j m) = D2) := by
              show _ = D2
              rw [← hs, hm.out, sh_go m e1 (by rw [← hm.out]; exact hl)]
            clear hl hs
            go_wp2_with fail
            refine L1.mono ?_
            rintro e9 z ⟨rfl, bz⟩
            obtain ⟨hA, hK⟩ := HAB.out z bz
            have SW := swapA hA j m (by have := hq.out; omega) (by have := hq.out; have := hm.out; omega)
            have HK : Hid (Kp [g] w z) := hK
            clear L1 bz HAB hA hK
            go_wp2_with fail
            refine SW.mono ?_
            rintro e9 z3 ⟨rfl, A2, k2⟩
            clear SW
            have R2 : Hid (IsA z3 base g N cap (Go.Sort.swp e1 j m) ∧ Kp [g] w z3) := ⟨A2, HK.out.trans k2⟩
            clear A2 k2 HK
            go_wp2_with fail
            have hm' := hm.out
            exact ⟨⟨m, _, rfl, by omega, HS.out, R2.out⟩, by simp [intOf]; omega⟩
#print axioms partialInsertionSort_any
end Go.Proofs.Ytndlpjfofjikeaa
